/- The reference's OpenBitmap (texts of stage 4, at this seat). -/
import Derived.Test.YtmbcegljmhcdeaaGreatSh
import Derived.Test.YtmbcegljmhcdeaaGreatTyA
import Derived.Laws.IdiomStrings
import Derived.Laws.BytesArg
import Derived.Sort.WalkA
namespace Go.Proofs.YtmbcegljmhcdeaaGreat
set_option maxRecDepth 5000
open Go.RowKit
theorem p16_len (n:Nat):(D.p16 n).length=2:=rfl
theorem p32_len (n:Nat):(D.p32 n).length=4:=rfl
theorem sum_len : ∀ (n:List (List UInt8)) (l:List UInt8),l∈n->l.length+1<=(n.map (fun l=>l.length+1)).sum
 | a::n,l,h=>by
  rw[List.map_cons,List.sum_cons]
  rcases List.mem_cons.1 h with rfl | h
  ·omega
  ·have:=sum_len n l h;omega
theorem len_sum : ∀ (n:List (List UInt8)),n.length<=(n.map (fun l=>l.length+1)).sum
 | []=>by simp
 | a::n=>by
  have:=len_sum n
  rw[List.map_cons,List.sum_cons,List.length_cons];omega
theorem small_of {n:List (List UInt8)} (h:N.size n<=1000):N.Small n:=by
 unfold N.size at h
 exact⟨by have:=len_sum n;omega,fun l hl=>by have:=sum_len n l hl;omega⟩
set_option maxHeartbeats 1600000 in
theorem soaBytes_any (s:D.Soa) (a1 a2:Option Addr) (n1 c1 n2 c2:Nat) (w:World) (h1:Hid (s.main.length=n1)) (h2:Hid (s.box.length=n2)) (hs1:SlS w a1 s.main) (hs2:SlS w a2 s.box) (hz1:N.size s.main<=1000) (hz2:N.size s.box<=1000)
 (ha:s.a<4294967296) (hb:s.b<4294967296) (hc:s.c<4294967296) (hd:s.d<4294967296) (he:s.e<4294967296) :
 Calls Tryz.prog 179 #[.agg #[.slice a1 n1 c1,.slice a2 n2 c2,.int .u32 (s.a:Int),.int .u32 (s.b:Int),.int .u32 (s.c:Int),.int .u32 (s.d:Int),.int .u32 (s.e:Int)]] w fun e w' => ∃ v',e = .returned v'/\OwnB w' w.heap.size v' (D.soaB s)/\Below w.heap.size w w':=by
 have S1:=hide hs1
 have S2:=hide hs2
 have m1:=hide (small_of hz1)
 have m2:=hide (small_of hz2)
 have l1:=N.wire_len s.main
 have l2:=N.wire_len s.box
 clear hs1 hs2
 unfold D.soaB
 obtain⟨main,box,a,b,c,d,e⟩:=s
 simp only at h1 h2 S1 S2 m1 m2 l1 l2 hz1 hz2 ha hb hc hd he ⊢
 have HROW:=hide (RowAt.new w 166 #[.slice a1 n1 c1,.slice a2 n2 c2,.int .u32 (a:Int),.int .u32 (b:Int),.int .u32 (c:Int),.int .u32 (d:Int),.int .u32 (e:Int)])
 have HB0:=hide ((Below.refl w.heap.size w).alloc (Nat.le_refl _) (.cells #[.slice a1 n1 c1,.slice a2 n2 c2,.int .u32 (a:Int),.int .u32 (b:Int),.int .u32 (c:Int),.int .u32 (d:Int),.int .u32 (e:Int)] 166))
 have HL1:Hid ((N.wire main).length<=1000):=by show _<=_;omega
 have HL2:Hid ((N.wire box).length<=1000):=by show _<=_;omega
 clear l1 l2
 go_enter Tryz.func179,Tryz.ntmps179
 go_wp2
 go_region_law (first
  | (refine step_call rfl 178 #[.slice a1 n1 c1] (by go_simp) (wire_any main a1 n1 c1 _ h1 (by exact S1.out.alloc _) m1) (by rintro e w' ⟨v,rfl,_⟩;exact⟨v,rfl⟩) ?_;rintro v1 w1 ⟨_,he,hO1,hb1⟩;cases he;have r1:=RowAt.below (by exact HROW.out) hb1 (by simp <;> omega);have p1:w1.cell? ⟨w.heap.size,1,none⟩=some (.slice a2 n2 c2):=r1.cell 1;have R1:=hide r1;have O1:=hide (OwnB.lower (base':=w.heap.size) hO1 (by simp <;> omega));have z1:w.heap.size<=w1.heap.size:=Nat.le_trans (by simp <;> omega) hb1.size;have B1:=hide ((below_allocs HB0.out (Nat.le_refl _) (Or.inl rfl)).trans (hb1.mono (by simp <;> omega)));clear r1 hO1 hb1)
  | (refine step_call rfl 178 #[.slice a2 n2 c2] (by go_simp) (wire_any box a2 n2 c2 _ h2 (by exact S2.out.below B1.out (Nat.le_refl _)) m2) (by rintro e w' ⟨v,rfl,_⟩;exact⟨v,rfl⟩) ?_;rintro v2 w2 ⟨_,he,hO2,hb2⟩;cases he;have R2:=hide (R1.out.below hb2 R1.out.lt);have OM:=hide (O1.out.below hb2);obtain⟨g9,c9,rfl,_,_,_,_,_⟩:=hO2.form (by simp[N.wire]);have S9:=hide hO2.sl;have z2:w.heap.size<=w2.heap.size:=Nat.le_trans z1 hb2.size;have B2:=hide (B1.out.trans (hb2.mono z1));clear hO2 hb2)
  | (refine step_append_B rfl (.tmp 6) (.tmp 9) rfl w.heap.size v1 (N.wire main) (by simp[Act.eval]) (by exact OM.out) ⟨g9,0,none⟩ (N.wire box).length c9 (N.wire box) (by simp[Act.eval]) rfl (by exact S9.out) (by have:=HL1.out;have:=HL2.out;omega) (by exact z2) ?_;intro v4 w4 hO4 hG4;have K4:=hide (Kp.grown OM.out hG4 z2);have O4:=hide hO4;clear hG4 hO4))
 all_goals
  have z4:w.heap.size<=w4.heap.size:=K4.out.size z2
  have B4:=hide (B2.out.trans K4.out.1)
  have R4:=hide (K4.out.2 _ _ _ R2.out (by decide))
  have p4:w4.cell? ⟨w.heap.size,2,none⟩=some (.int .u32 (a:Int)):=R4.out.cell 2
  have L4:Hid ((N.wire main++N.wire box).length<=2000):=by have:=HL1.out;have:=HL2.out;show _<=_;rw[List.length_append];omega
  obtain⟨q,hq⟩ : ∃ q,N.wire main++N.wire box=q:=⟨_,rfl⟩
  rw[hq] at O4 L4
  have HQ:=hide hq
  clear hq
  clear R2 B2 K4 S9 OM R1 B1 O1
  go_wp2_with fail
  refine (append32_any a ha w.heap.size v4 (q) _ (by exact O4.out) (by exact z4) (by have:=L4.out;first | omega | (simp only[List.length_append,p32_len];omega))).mono ?_
  rintro e w5 ⟨v5,rfl,hO5,hK5⟩
  have z5:w.heap.size<=w5.heap.size:=hK5.size z4
  have B5:=hide (B4.out.trans hK5.1)
  have R5:=hide (hK5.2 _ _ _ R4.out (by decide))
  have p5:w5.cell? ⟨w.heap.size,3,none⟩=some (.int .u32 (b:Int)):=R5.out.cell 3
  have O5:=hide hO5
  clear hO5 hK5 p4 R4 O4
  go_wp2_with fail
  refine (append32_any b hb w.heap.size v5 (q++D.p32 a) _ (by exact O5.out) (by exact z5) (by have:=L4.out;first | omega | (simp only[List.length_append,p32_len];omega))).mono ?_
  rintro e w6 ⟨v6,rfl,hO6,hK6⟩
  have z6:w.heap.size<=w6.heap.size:=hK6.size z5
  have B6:=hide (B5.out.trans hK6.1)
  have R6:=hide (hK6.2 _ _ _ R5.out (by decide))
  have p6:w6.cell? ⟨w.heap.size,4,none⟩=some (.int .u32 (c:Int)):=R6.out.cell 4
  have O6:=hide hO6
  clear hO6 hK6 p5 R5 O5
  go_wp2_with fail
  refine (append32_any c hc w.heap.size v6 (q++D.p32 a++D.p32 b) _ (by exact O6.out) (by exact z6) (by have:=L4.out;first | omega | (simp only[List.length_append,p32_len];omega))).mono ?_
  rintro e w7 ⟨v7,rfl,hO7,hK7⟩
  have z7:w.heap.size<=w7.heap.size:=hK7.size z6
  have B7:=hide (B6.out.trans hK7.1)
  have R7:=hide (hK7.2 _ _ _ R6.out (by decide))
  have p7:w7.cell? ⟨w.heap.size,5,none⟩=some (.int .u32 (d:Int)):=R7.out.cell 5
  have O7:=hide hO7
  clear hO7 hK7 p6 R6 O6
  go_wp2_with fail
  refine (append32_any d hd w.heap.size v7 (q++D.p32 a++D.p32 b++D.p32 c) _ (by exact O7.out) (by exact z7) (by have:=L4.out;first | omega | (simp only[List.length_append,p32_len];omega))).mono ?_
  rintro e w8 ⟨v8,rfl,hO8,hK8⟩
  have z8:w.heap.size<=w8.heap.size:=hK8.size z7
  have B8:=hide (B7.out.trans hK8.1)
  have R8:=hide (hK8.2 _ _ _ R7.out (by decide))
  have p8:w8.cell? ⟨w.heap.size,6,none⟩=some (.int .u32 (e:Int)):=R8.out.cell 6
  have O8:=hide hO8
  clear hO8 hK8 p7 R7 O7
  go_wp2_with fail
  refine (append32_any e he w.heap.size v8 (q++D.p32 a++D.p32 b++D.p32 c++D.p32 d) _ (by exact O8.out) (by exact z8) (by have:=L4.out;first | omega | (simp only[List.length_append,p32_len];omega))).mono ?_
  rintro e w9 ⟨v9,rfl,hO9,hK9⟩
  go_wp2
  go_ret
  exact⟨_,rfl,by rw[HQ.out];exact hO9,B8.out.trans hK9.1⟩
open Go.RowKit
set_option maxHeartbeats 1600000 in
theorem sigBytes_any (s:D.Sig) (a1 a2:Option Addr) (n1 c1 n2 c2:Nat) (w:World) (h1:Hid (s.signer.length=n1)) (h2:Hid (s.sig.length=n2)) (hs1:SlS w a1 s.signer) (hs2:SlL w a2 s.sig) (hnil:a2=none->c2=0) (hz1:N.size s.signer<=1000) (hz2:n2<=100000)
 (ht:s.type<65536) (ha:s.alg<256) (hb:s.labels<256) (hc:s.ttl<4294967296) (hd:s.expire<4294967296) (he:s.begin_<4294967296) (hg:s.tag<65536) :
 Calls Tryz.prog 181 #[.agg #[.int .u16 (s.type:Int),.int .u8 (s.alg:Int),.int .u8 (s.labels:Int),.int .u32 (s.ttl:Int),.int .u32 (s.expire:Int),.int .u32 (s.begin_:Int),.int .u16 (s.tag:Int),.slice a1 n1 c1,.slice a2 n2 c2]] w fun e w' => ∃ v',e = .returned v'/\OwnB w' w.heap.size v' (D.sigB s)/\Below w.heap.size w w':=by
 have S1:=hide hs1
 have S2:=hide hs2
 have NI:=hide hnil
 have m1:=hide (small_of hz1)
 have l1:=N.wire_len s.signer
 clear hs1 hs2 hnil
 unfold D.sigB
 obtain⟨type,alg,labels,ttl,expire,begin_,tag,signer,sig⟩:=s
 simp only at h1 h2 S1 S2 m1 l1 hz1 ht ha hb hc hd he hg ⊢
 have q1:(alg:Int)=((UInt8.ofNat alg).toNat:Int):=by rw[D.nat_u8 _ ha]
 have q2:(labels:Int)=((UInt8.ofNat labels).toNat:Int):=by rw[D.nat_u8 _ hb]
 rw[q1,q2]
 clear q1 q2
 generalize UInt8.ofNat alg=x
 generalize UInt8.ofNat labels=y
 have R0:=hide (RowAt.new w 175 #[.int .u16 (type:Int),.int .u8 (x.toNat:Int),.int .u8 (y.toNat:Int),.int .u32 (ttl:Int),.int .u32 (expire:Int),.int .u32 (begin_:Int),.int .u16 (tag:Int),.slice a1 n1 c1,.slice a2 n2 c2])
 have B0:=hide ((Below.refl w.heap.size w).alloc (Nat.le_refl _) (.cells #[.int .u16 (type:Int),.int .u8 (x.toNat:Int),.int .u8 (y.toNat:Int),.int .u32 (ttl:Int),.int .u32 (expire:Int),.int .u32 (begin_:Int),.int .u16 (tag:Int),.slice a1 n1 c1,.slice a2 n2 c2] 175))
 have HL1:Hid ((N.wire signer).length<=1000):=by show _<=_;omega
 clear l1
 go_enter Tryz.func181,Tryz.ntmps181
 go_wp2_with fail
 refine (append16_nil type ht _).mono ?_
 rintro e w1 ⟨v1,rfl,hO1,hb1⟩
 have z1:w.heap.size<=w1.heap.size:=Nat.le_trans (by simp) hb1.size
 have B1:=hide (B0.out.trans (hb1.mono (by simp)))
 have R1:=hide (R0.out.below hb1 (by simp))
 have O1:=hide (OwnB.lower (base':=w.heap.size) hO1 (by simp))
 have p1:w1.cell? ⟨w.heap.size,1,none⟩=some (.int .u8 (x.toNat:Int)):=R1.out.cell 1
 have p1b:w1.cell? ⟨w.heap.size,2,none⟩=some (.int .u8 (y.toNat:Int)):=R1.out.cell 2
 clear hO1 hb1 R0 B0
 go_wp2_with (at_builtin;refine wpList_append_B rfl (.tmp 7) (.tmp 12) rfl w.heap.size _ (D.p16 type) rfl (by exact O1.out.alloc _) _ _ _ [x,y] rfl rfl (by exact SlL.litm w1 [x,y] _ 5 (0,0) rfl) (by intro h;cases h) (by simp[p16_len]) (by simp;omega) ?_;intro v2 w2 hO2 hG2;have hK2:=Kp.app O1.out hG2 z1;have z2:w.heap.size<=w2.heap.size:=hK2.size z1;have B2:=hide (B1.out.trans hK2.1);have R2:=hide (hK2.2 _ _ _ R1.out (by decide));have p2:w2.cell? ⟨w.heap.size,3,none⟩=some (.int .u32 (ttl:Int)):=R2.out.cell 3;have O2:=hide hO2;clear hO2 hG2 hK2 p1 p1b R1 B1 O1)
 refine (append32_any ttl hc w.heap.size v2 (D.p16 type ++ [x,y]) _ (by exact O2.out) (by exact z2) (by simp only[List.length_append,p16_len,List.length_cons,List.length_nil];omega)).mono ?_
 rintro e w3 ⟨v3,rfl,hO3,hK3⟩
 have z3:w.heap.size<=w3.heap.size:=hK3.size z2
 have B3:=hide (B2.out.trans hK3.1)
 have R3:=hide (hK3.2 _ _ _ R2.out (by decide))
 have p3:w3.cell? ⟨w.heap.size,4,none⟩=some (.int .u32 (expire:Int)):=R3.out.cell 4
 have O3:=hide hO3
 clear hO3 hK3 p2 R2 O2 B2
 go_wp2_with fail
 refine (append32_any expire hd w.heap.size v3 (D.p16 type ++ [x,y]++D.p32 ttl) _ (by exact O3.out) (by exact z3) (by simp only[List.length_append,p32_len,p16_len,List.length_cons,List.length_nil];omega)).mono ?_
 rintro e w4 ⟨v4,rfl,hO4,hK4⟩
 have z4:w.heap.size<=w4.heap.size:=hK4.size z3
 have B4:=hide (B3.out.trans hK4.1)
 have R4:=hide (hK4.2 _ _ _ R3.out (by decide))
 have p4:w4.cell? ⟨w.heap.size,5,none⟩=some (.int .u32 (begin_:Int)):=R4.out.cell 5
 have O4:=hide hO4
 clear hO4 hK4 p3 R3 O3 B3
 go_wp2_with fail
 refine (append32_any begin_ he w.heap.size v4 (D.p16 type ++ [x,y]++D.p32 ttl++D.p32 expire) _ (by exact O4.out) (by exact z4) (by simp only[List.length_append,p32_len,p16_len,List.length_cons,List.length_nil];omega)).mono ?_
 rintro e w5 ⟨v5,rfl,hO5,hK5⟩
 have z5:w.heap.size<=w5.heap.size:=hK5.size z4
 have B5:=hide (B4.out.trans hK5.1)
 have R5:=hide (hK5.2 _ _ _ R4.out (by decide))
 have p5:w5.cell? ⟨w.heap.size,6,none⟩=some (.int .u16 (tag:Int)):=R5.out.cell 6
 have O5:=hide hO5
 clear hO5 hK5 p4 R4 O4 B4
 go_wp2_with fail
 refine (append16_any tag hg w.heap.size v5 (D.p16 type ++ [x,y]++D.p32 ttl++D.p32 expire++D.p32 begin_) _ (by exact O5.out) (by exact z5) (by simp only[List.length_append,p32_len,p16_len,List.length_cons,List.length_nil];omega)).mono ?_
 rintro e w6 ⟨v6,rfl,hO6,hK6⟩
 have z6:w.heap.size<=w6.heap.size:=hK6.size z5
 have B6:=hide (B5.out.trans hK6.1)
 have R6:=hide (hK6.2 _ _ _ R5.out (by decide))
 have p6:w6.cell? ⟨w.heap.size,7,none⟩=some (.slice a1 n1 c1):=R6.out.cell 7
 have O6:=hide hO6
 clear hO6 hK6 p5 R5 O5 B5
 go_wp2_with fail
 refine (wire_any signer a1 n1 c1 _ h1 (by exact S1.out.below B6.out (Nat.le_refl _)) m1).mono ?_
 rintro e w7 ⟨v7,rfl,hO7,hb7⟩
 have z7:w.heap.size<=w7.heap.size:=Nat.le_trans z6 hb7.size
 have B7:=hide (B6.out.trans (hb7.mono z6))
 have R7:=hide (R6.out.below hb7 R6.out.lt)
 have O7:=hide (O6.out.below hb7)
 obtain⟨a9,c9,rfl,hs9,hn9,_⟩:=hO7.open
 have S9:=hide hs9
 have N9:=hide hn9
 clear hs9 hn9 hO7 hb7 p6 R6 O6 B6
 go_wp2_with (first
  | (at_builtin;refine wpList_append_B rfl (.tmp 30) (.tmp 33) rfl w.heap.size _ (D.p16 type ++ [x,y]++D.p32 ttl++D.p32 expire++D.p32 begin_++D.p16 tag) rfl (by exact O7.out) _ _ _ (N.wire signer) rfl rfl (by exact S9.out) N9.out (by have:=HL1.out;simp only[List.length_append,p32_len,p16_len,List.length_cons,List.length_nil];omega) z7 ?_;intro v8 w8 hO8 hG8;have hK8:=Kp.grown O7.out hG8 z7;have z8:w.heap.size<=w8.heap.size:=hK8.size z7;have B8:=hide (B7.out.trans hK8.1);have p8:w8.cell? ⟨w.heap.size,8,none⟩=some (.slice a2 n2 c2):=(hK8.2 _ _ _ R7.out (by decide)).cell 8;have O8:=hide hO8;clear hO8 hG8 hK8 R7 B7 O7 S9)
  | (at_builtin;refine wpList_append_B rfl (.tmp 35) (.tmp 37) rfl w.heap.size _ (D.p16 type ++ [x,y]++D.p32 ttl++D.p32 expire++D.p32 begin_++D.p16 tag++N.wire signer) rfl (by exact O8.out) _ _ _ sig rfl h2.out (by exact S2.out.below B8.out (Nat.le_refl _)) NI.out (by have:=HL1.out;simp only[List.length_append,p32_len,p16_len,List.length_cons,List.length_nil];omega) z8 ?_;intro v10 w10 hO10 hG10;have hK10:=Kp.grown O8.out hG10 z8;clear hG10))
 go_ret
 exact⟨_,rfl,hO10,B8.out.trans hK10.1⟩
set_option maxHeartbeats 1600000 in
theorem chainBytes_any (c:D.Chain) (a1 a2 a3:Option Addr) (n1 c1 n2 c2 n3 c3:Nat) (w:World) (h1:Hid (c.salt.length=n1)) (h2:Hid (c.next.length=n2)) (h3:Hid (c.types.length=n3)) (hs1:SlL w a1 c.salt) (hs2:SlL w a2 c.next) (hs3:SlH w a3 c.types)
 (hn1:a1=none->c1=0) (hn2:a2=none->c2=0) (hn3:a3=none->c3=0) (l1:n1<=10000) (l2:n2<=10000) (l3:n3<=70000) (hr:T.Rising c.types) (ha:c.hash<256) (hb:c.flags<256) (hi:c.iter<65536) (hlb:(T.bmp c.types).length<=100000) :
 Calls Tryz.prog 154 #[.agg #[.int .u8 (c.hash:Int),.int .u8 (c.flags:Int),.int .u16 (c.iter:Int),.slice a1 n1 c1,.slice a2 n2 c2,.slice a3 n3 c3]] w fun e w' => ∃ v',e = .returned v'/\OwnB w' w.heap.size v' (D.chainB c)/\Below w.heap.size w w':=by
 have S1:=hide hs1
 have S2:=hide hs2
 have S3:=hide hs3
 have N1:=hide hn1
 have N2:=hide hn2
 have N3:=hide hn3
 have HLB:=hide hlb
 have HR:=hide hr
 clear hs1 hs2 hs3 hn1 hn2 hn3 hlb hr
 unfold D.chainB
 obtain⟨hash,flags,iter,salt,next,types⟩:=c
 simp only at h1 h2 h3 S1 S2 S3 HR HLB ha hb hi ⊢
 have q1:(hash:Int)=((UInt8.ofNat hash).toNat:Int):=by rw[D.nat_u8 _ ha]
 have q2:(flags:Int)=((UInt8.ofNat flags).toNat:Int):=by rw[D.nat_u8 _ hb]
 rw[q1,q2]
 clear q1 q2
 generalize UInt8.ofNat hash=x
 generalize UInt8.ofNat flags=y
 have R0:=hide ((RowAt.new w 183 #[.int .u8 (x.toNat:Int),.int .u8 (y.toNat:Int),.int .u16 (iter:Int),.slice a1 n1 c1,.slice a2 n2 c2,.slice a3 n3 c3]).alloc (.cells #[.int .u8 x.toNat,.int .u8 y.toNat] 5))
 have B0:=hide (((Below.refl w.heap.size w).alloc (Nat.le_refl _) (.cells #[.int .u8 (x.toNat:Int),.int .u8 (y.toNat:Int),.int .u16 (iter:Int),.slice a1 n1 c1,.slice a2 n2 c2,.slice a3 n3 c3] 183)).alloc (by simp) (.cells #[.int .u8 x.toNat,.int .u8 y.toNat] 5))
 have O0:=hide (OwnB.two (w.alloc (.cells #[.int .u8 (x.toNat:Int),.int .u8 (y.toNat:Int),.int .u16 (iter:Int),.slice a1 n1 c1,.slice a2 n2 c2,.slice a3 n3 c3] 183)) x y w.heap.size (by simp))
 rw[World.size_alloc] at O0
 have L1:Hid ((D.pc salt).length<=10001):=by show _<=_;have:=h1.out;simp[D.pc];omega
 have L2:Hid ((D.pc next).length<=10001):=by show _<=_;have:=h2.out;simp[D.pc];omega
 go_enter Tryz.func154,Tryz.ntmps154
 go_wp2_with fail
 refine (append16_any iter hi w.heap.size (.slice (some ⟨w.heap.size+1,0,none⟩) 2 2) [x,y] _ (by exact O0.out) (by simp <;> omega) (by simp)).mono ?_
 rintro e w1 ⟨v1,rfl,hO1,hK1⟩
 have z1:w.heap.size<=w1.heap.size:=hK1.size (by simp <;> omega)
 have B1:=hide (B0.out.trans hK1.1)
 have R1:=hide (hK1.2 _ _ _ R0.out (by decide))
 have p1:w1.cell? ⟨w.heap.size,3,none⟩=some (.slice a1 n1 c1):=R1.out.cell 3
 have O1:=hide hO1
 clear hO1 hK1 R0 B0 O0
 go_wp2_with fail
 refine (appendCounted_any salt a1 n1 c1 w.heap.size v1 ([x,y]++D.p16 iter) _ (by exact O1.out) (by exact z1) (by have:=L1.out;simp only[List.length_append,p16_len,List.length_cons,List.length_nil];omega) h1 (by exact S1.out.below B1.out (Nat.le_refl _)) N1.out (by omega) (by exact S1.out.apart O1.out (Nat.le_refl _))).mono ?_
 rintro e w2 ⟨v2,rfl,hO2,hK2⟩
 have z2:w.heap.size<=w2.heap.size:=hK2.size z1
 have B2:=hide (B1.out.trans hK2.1)
 have R2:=hide (hK2.2 _ _ _ R1.out (by decide))
 have p2:w2.cell? ⟨w.heap.size,4,none⟩=some (.slice a2 n2 c2):=R2.out.cell 4
 have O2:=hide hO2
 clear hO2 hK2 p1 R1 O1 B1
 go_wp2_with fail
 refine (appendCounted_any next a2 n2 c2 w.heap.size v2 ([x,y]++D.p16 iter++D.pc salt) _ (by exact O2.out) (by exact z2) (by have:=L1.out;simp only[List.length_append,p16_len,List.length_cons,List.length_nil];omega) h2 (by exact S2.out.below B2.out (Nat.le_refl _)) N2.out (by omega) (by exact S2.out.apart O2.out (Nat.le_refl _))).mono ?_
 rintro e w3 ⟨v3,rfl,hO3,hK3⟩
 have z3:w.heap.size<=w3.heap.size:=hK3.size z2
 have B3:=hide (B2.out.trans hK3.1)
 have R3:=hide (hK3.2 _ _ _ R2.out (by decide))
 have p3:w3.cell? ⟨w.heap.size,5,none⟩=some (.slice a3 n3 c3):=R3.out.cell 5
 have O3:=hide hO3
 clear hO3 hK3 p2 R2 O2 B2
 go_wp2_with fail
 refine (bitmap_any types a3 n3 c3 _ h3 (by exact S3.out.below B3.out (Nat.le_refl _)) N3.out l3).mono ?_
 rintro e w4 ⟨v4,cl,rfl,hcl,_,hO4,hb4⟩
 have hcl2:=hcl.self HR.out
 rw[hcl2] at hO4
 have O5:=hide (O3.out.below hb4)
 have z4:w.heap.size<=w4.heap.size:=Nat.le_trans z3 hb4.size
 have B4:=hide (B3.out.trans (hb4.mono z3))
 obtain⟨a9,c9,rfl,hs9,hn9,_⟩:=hO4.open
 have S9:=hide hs9
 have N9:=hide hn9
 clear hs9 hn9 hO4 hb4 p3 R3 O3 B3 hcl hcl2
 go_wp2_with (at_builtin;refine wpList_append_B rfl (.tmp 20) (.tmp 23) rfl w.heap.size _ ([x,y]++D.p16 iter++D.pc salt++D.pc next) rfl (by exact O5.out) _ _ _ (T.bmp types) rfl rfl (by exact S9.out) N9.out (by have:=L1.out;have:=L2.out;have:=HLB.out;simp only[List.length_append,p16_len,List.length_cons,List.length_nil];omega) z4 ?_;intro v6 w6 hO6 hG6;have hK6:=Kp.grown O5.out hG6 z4;clear hG6)
 go_ret
 exact⟨_,rfl,hO6,B4.out.trans hK6.1⟩
open Go.RowKit
theorem Rdr.base {B T:Nat} {l:List UInt8} {w:World} (h:Rdr B T l w):B<=w.heap.size:=by
 obtain⟨ao,c,_,_,_,_,_,_,h⟩:=h
 exact h
theorem Rdr.len {B T:Nat} {l:List UInt8} {w:World} (h:Rdr B T l w):l.length<=8192:=by
 obtain⟨ao,c,_,_,_,_,_,h,_⟩:=h
 exact h
theorem Rdr.other {B T:Nat} {l:List UInt8} {w:World} (h:Rdr B T l w) (g j:Nat) (v:Value) (hg:T≠g) (hB:B<=g):Rdr B T l (w.setCell ⟨g,j,none⟩ v):=by
 obtain⟨ao,c,h1,h2,h3,h4,h5,h6,h7⟩:=h
 exact⟨ao,c,h1.other _ _ hg,h2.below ((Below.refl B w).setCell hB _),h3,h4,h5,h6,by simp[World.setCell];omega⟩
theorem Mv.setNew {T:Nat} {w w':World} (h:Mv T w w') (g j:Nat) (v:Value) (hg:w.heap.size<=g):Mv T w (w'.setCell ⟨g,j,none⟩ v) :=
 ⟨h.os,h.tape,h.output,by simp[World.setCell];exact h.size,fun k hk hn=>(Below.heap_setCell _ _ _ _ (by show k≠g;omega)).trans (h.block k hk hn)⟩
theorem RowAt.same {w:World} {g t:Nat} {c:Array Value} (h:RowAt w g t c) (j:Nat) {v:Value} (hv:c[j]?=some v):RowAt (w.setCell ⟨g,j,none⟩ v) g t c:=by
 have h1:=h.set j v
 have e:c.setIfInBounds j v=c:=by
  apply Array.ext
  ·simp
  ·intro i h1 h2
   rw[Array.getElem_setIfInBounds]
   split
   ·subst_vars;rw[Array.getElem?_eq_some_iff] at hv;obtain⟨_,hv⟩:=hv;exact hv.symm
   ·rfl
 rwa [e] at h1
def Upd (g:Nat) (W F:World):Prop:=F.os=W.os/\F.tape=W.tape/\F.output=W.output/\F.heap.size=W.heap.size /\ ∀ k,k≠g->F.heap[k]?=W.heap[k]?
theorem Upd.refl (g:Nat) (W:World):Upd g W W:=⟨rfl,rfl,rfl,rfl,fun _ _=>rfl⟩
theorem Upd.set {g:Nat} {W F:World} (h:Upd g W F) (j:Nat) (v:Value):Upd g W (F.setCell ⟨g,j,none⟩ v) :=
 ⟨h.1,h.2.1,h.2.2.1,by simp[World.setCell];exact h.2.2.2.1,fun k hk=>(Below.heap_setCell _ _ _ _ hk).trans (h.2.2.2.2 k hk)⟩
theorem Upd.mv {T g:Nat} {w W F:World} (u:Upd g W F) (h:Mv T w W) (hg:w.heap.size<=g):Mv T w F :=
 ⟨u.1.trans h.os,u.2.1.trans h.tape,u.2.2.1.trans h.output,by rw[u.2.2.2.1];exact h.size,fun k hk hn=>(u.2.2.2.2 k (by omega)).trans (h.block k hk hn)⟩
theorem Upd.below {B g:Nat} {W F:World} (u:Upd g W F) (hg:B<=g):Below B W F:=⟨u.1,u.2.1,u.2.2.1,by rw[u.2.2.2.1];exact Nat.le_refl _,fun k hk=>u.2.2.2.2 k (by omega)⟩
theorem Upd.rdr {B T g:Nat} {l:List UInt8} {W F:World} (u:Upd g W F) (h:Rdr B T l W) (hT:T≠g) (hB:B<=g):Rdr B T l F:=by
 obtain⟨ao,c,h1,h2,h3,h4,h5,h6,h7⟩:=h
 exact⟨ao,c,by unfold RowAt;rw[u.2.2.2.2 T hT];exact h1,h2.below (u.below hB),h3,h4,h5,h6,by rw[u.2.2.2.1];exact h7⟩
theorem Upd.own {g t B e n:Nat} {W F:World} {v:Value} {xs:List Value} {c:Array Value} (u:Upd g W F) (hT:RowAt W g t c) (hne:t≠e) (h:W.ownsRow B e 1 v n xs):F.ownsRow B e 1 v n xs:=by
 have hn:=own_ne h hT hne
 refine⟨h.1,?_⟩
 rcases h.2 with h1 | ⟨g',cap,cur,e1,hb,hg',hr⟩
 ·exact Or.inl h1
 ·refine Or.inr ⟨g',cap,cur,e1,hb,?_,hr⟩
  rw[u.2.2.2.2 g' (fun e2=>hn (by rw[e1, <- e2];rfl))];exact hg'
def KeyV (base:Nat) (k:D.Key) (v:Value) (w:World):Prop := ∃ a c,v = .agg #[.int .u16 (k.flags:Int),.int .u8 (k.proto:Int),.int .u8 (k.alg:Int),.slice a k.key.length c]/\OwnB w base (.slice a k.key.length c) k.key
def SoaV (base:Nat) (s:D.Soa) (v:Value) (w:World):Prop := ∃ a1 c1 a2 c2,v = .agg #[.slice a1 s.main.length c1,.slice a2 s.box.length c2,.int .u32 (s.a:Int),.int .u32 (s.b:Int),.int .u32 (s.c:Int),.int .u32 (s.d:Int),.int .u32 (s.e:Int)]/\OwnS w base (.slice a1 s.main.length c1) s.main/\OwnS w base (.slice a2 s.box.length c2) s.box
def SigV (base:Nat) (s:D.Sig) (v:Value) (w:World):Prop := ∃ a1 c1 a2 c2,v = .agg #[.int .u16 (s.type:Int),.int .u8 (s.alg:Int),.int .u8 (s.labels:Int),.int .u32 (s.ttl:Int),.int .u32 (s.expire:Int),.int .u32 (s.begin_:Int),.int .u16 (s.tag:Int),.slice a1 s.signer.length c1,.slice a2 s.sig.length c2]/\OwnS w base (.slice a1 s.signer.length c1) s.signer/\OwnB w base (.slice a2 s.sig.length c2) s.sig
def ChainV (base:Nat) (c:D.Chain) (v:Value) (w:World):Prop := ∃ a1 c1 a2 c2 a3 c3,v = .agg #[.int .u8 (c.hash:Int),.int .u8 (c.flags:Int),.int .u16 (c.iter:Int),.slice a1 c.salt.length c1,.slice a2 c.next.length c2,.slice a3 c.types.length c3]/\OwnB w base (.slice a1 c.salt.length c1) c.salt/\OwnB w base (.slice a2 c.next.length c2) c.next/\OwnH w base (.slice a3 c.types.length c3) c.types
open Go.RowKit
namespace T
def typUp (w:Nat) (b:List UInt8) (p:Nat):List UInt16:=((List.range p).filter (has b)).map (mk w)
theorem typUp_all (w:Nat) (b:List UInt8):typUp w b (8*b.length)=typ w b:=rfl
theorem typUp_yes (w:Nat) (b:List UInt8) (p:Nat) (h:has b p=true):typUp w b (p+1)=typUp w b p ++ [mk w p]:=by
 unfold typUp;rw[List.range_succ,List.filter_append,List.map_append];simp[h]
theorem typUp_no (w:Nat) (b:List UInt8) (p:Nat) (h:has b p=false):typUp w b (p+1)=typUp w b p:=by
 unfold typUp;rw[List.range_succ,List.filter_append,List.map_append];simp[h]
theorem typUp_len (w:Nat) (b:List UInt8) (p:Nat):(typUp w b p).length<=p:=by
 unfold typUp;rw[List.length_map];exact Nat.le_trans (List.length_filter_le _ _) (by simp)
theorem and_has (b:List UInt8) (p:Nat):((b.getD (p / 8) 0).toNat &&& 2 ^ (7 - p % 8)≠0)↔has b p=true:=by
 unfold has
 generalize (b.getD (p / 8) 0).toNat=y
 generalize 7 - p % 8=k
 constructor
 ·intro h
  cases hb:y.testBit k
  ·refine absurd (Nat.eq_of_testBit_eq fun i=>?_) h
   rw[Nat.testBit_and,Nat.testBit_two_pow,Nat.zero_testBit]
   by_cases e:k=i
   ·subst e;simp[hb]
   ·simp[e]
  ·rfl
 ·intro h e
  have:=congrArg (fun z=>Nat.testBit z k) e
  simp[Nat.testBit_and,h] at this
def okw (least:Nat):List UInt8->Option Nat
 | x::n::r=>if bad least x n r then none else some (2+n.toNat)
 | _=>none
def okv:Option Nat->Value
 | some k => .tuple #[.int .i64 (k:Int),.bool true]
 | none => .tuple #[.int .i64 0,.bool false]
end T
set_option maxHeartbeats 3200000 in
theorem appendTypes_any (H:Nat) (bs:List UInt8) (m:List UInt16) (B b o n cap:Nat) (v:Value) (w:World) (hl:Hid (bs.length=n)) (hn:n<=32) (hn0:0<n) (hH:H<256) (hs:SlL w (some ⟨b,o,none⟩) bs) (hb:b<B) (hO:OwnH w B v m) (hB:B<=w.heap.size) (hm:m.length<=1000000) :
 Calls Tryz.prog 210 #[v,.int .i64 (H:Int),.slice (some ⟨b,o,none⟩) n cap] w fun e w' => ∃ v',e = .returned v'/\OwnH w' B v' (m++T.typ H bs)/\Below B w w':=by
 obtain⟨b',o',e,hb',hc⟩:=hs (by rw[hl.out];exact hn0)
 cases e
 rw[hl.out] at hc
 clear hs
 go_enter Tryz.func210,Tryz.ntmps210
 go_wp2
 go_loopw [0,11] (fun v u W => ∃ p:Nat,u = .int .i64 (p:Int)/\p<=8*n/\OwnH W B v (m++T.typUp H bs p)/\Below B w W) (fun _ u _=>8*n - (intOf u).toNat)
 case atStart=>exact⟨0,rfl,by omega,(by simpa [T.typUp] using hO),Below.refl _ _⟩
 case round =>
  clear hO
  obtain⟨p,rfl,hp,hO,hBw⟩:=hrel
  have hz:=hBw.size
  by_cases hpn:p<8*n
  ·obtain⟨k,hk⟩ : ∃ k,p / 8=k:=⟨_,rfl⟩
   have hkn:k<n:=by omega
   have e2:(p:Int) / 8=(k:Int):=by omega
   have e2':Int.tdiv (p:Int) 8=(k:Int):=by rw[Int.tdiv_eq_ediv_of_nonneg (by omega)];exact e2
   have e4:IntKind.i64.wrap (k:Int)=(k:Int):=wrap_nat k (by omega)
   have epn:(p:Int)<8*(n:Int):=by omega
   have hx:=(hBw.cell (p:=⟨b,o+k,none⟩) hb).trans (hc k hkn)
   have hhas:=T.and_has bs p
   rw[hk] at hhas
   obtain⟨y,hy⟩ : ∃ y,bs.getD k 0=y:=⟨_,rfl⟩
   rw[hy] at hx hhas
   obtain⟨q,hq⟩ : ∃ q:Nat,2 ^ (7 - p % 8)=q:=⟨_,rfl⟩
   have hq3:q<256:=by
    rw[<- hq]
    have:2 ^ (7 - p % 8)<2 ^ 8:=Nat.pow_lt_pow_right (by omega) (by omega)
    omega
   rw[hq] at hhas
   have cb:=fun W=>bitOf_any p (by omega) W
   rw[hq] at cb
   have e3:=u8_and_nat y.toNat q y.toNat_lt hq3
   obtain⟨z,hzz⟩ : ∃ z:Nat,y.toNat &&& q=z:=⟨_,rfl⟩
   rw[hzz] at hhas e3
   have hml:(m++T.typUp H bs p).length<=1000256:=by rw[List.length_append];have:=T.typUp_len H bs p;omega
   have HH:=hide hhas
   have HO:=hide hO
   clear hhas hO hzz hq hy hk
   by_cases hz0:z=0
   ·have hno:T.has bs p=false:=by
     have : ¬ T.has bs p=true:=fun h=>(HH.out.2 h) hz0
     simpa using this
    have e5:((z:Int) != 0)=false:=by simp[hz0]
    go_wp2
    go_quiet (first | (go_at_call 219;refine Calls.quiet_of_same (cb _)))
    go_wp2
    go_roundw
    case rel=>exact⟨p+1,by go_num,by omega,(by rw[T.typUp_no H bs p hno];exact HO.out),⟨hBw.os,hBw.tape,hBw.output,hBw.size,hBw.block⟩⟩
    case measure=>simp[intOf];omega
   ·have hyes:T.has bs p=true:=HH.out.1 hz0
    have e5:((z:Int) != 0)=true:=by simp[hz0]
    go_wp2
    go_quiet (first | (go_at_call 219;refine Calls.quiet_of_same (cb _)))
    have HO2:Hid (OwnH (wr.drewN nq) B u0 (m++T.typUp H bs p)):=HO.out
    have hBw2:Below B w (wr.drewN nq):=⟨hBw.os,hBw.tape,hBw.output,hBw.size,hBw.block⟩
    have hz2:B<=(wr.drewN nq).heap.size:=by show B<=wr.heap.size;omega
    have e6:IntKind.u16.wrap ((H:Int)*256+(p:Int))=((T.mk H p).toNat:Int):=by
     rw[T.mk_nat H p hH (by omega),IntKind.wrap_u16];omega
    clear hBw HO hx
    generalize wr.drewN nq=w2 at HO2 hBw2 hz2 ⊢
    go_wp2_with (at_builtin;refine wpList_append_H rfl (.tmp 23) (.tmp 29) rfl B _ (m++T.typUp H bs p) rfl (by exact HO2.out.alloc _) _ _ _ [T.mk H p] rfl rfl (SlH.oneI _ _ _ _ (by rfl)) (by simp) (by simp at hml ⊢; omega) (by simp;omega) ?_;intro v4 w4 hO4 hG4;have hB4:=grown_belowH (HO2.out.alloc _) hG4 (hBw2.alloc hz2 _) (by simp;omega);clear hG4)
    go_roundw
    case rel=>exact⟨p+1,by go_num,by omega,(by rw[T.typUp_yes H bs p hyes, <- List.append_assoc];exact hO4),hB4⟩
    case measure=>simp[intOf];omega
  ·obtain rfl:p=8*n:=by omega
   have epn : ¬ ((8*n:Nat):Int)<8*(n:Int):=by omega
   go_wp2
   go_ret
   refine⟨_,rfl,?_,hBw⟩
   rw[<- hl.out,T.typUp_all] at hO
   exact hO
open Go.RowKit
theorem SlL.take {w:World} {ao:Option Addr} {l:List UInt8} (h:SlL w ao l) (k:Nat):SlL w ao (l.take k):=fun hn=>by
 rw[List.length_take] at hn
 obtain⟨b,o,e,hlt,hc⟩:=h (by omega)
 refine⟨b,o,e,hlt,fun j hj=>?_⟩
 rw[List.length_take] at hj
 rw[hc j (by omega),List.getD_eq_getElem?_getD,List.getD_eq_getElem?_getD,List.getElem?_take_of_lt (by omega)]
set_option maxHeartbeats 3200000 in
theorem openWindow_any (l:List UInt8) (ao:Option Addr) (len cap least:Nat) (w:World) (hl:Hid (l.length=len)) (hs:SlL w ao l) (hlen:len<=1000000) :
 Calls Tryz.prog 209 #[.slice ao len cap,.int .i64 (least:Int)] w fun e w'=>e = .returned (T.okv (T.okw least l))/\w'=w:=by
 by_cases h2:len<2
 ·have hok:T.okw least l=none:=by
   match l,hl with
   | [],_=>rfl
   | [_],_=>rfl
   | _::_::_,h=>have:=h.out;simp at this;omega
  rw[hok]
  have e2:(len:Int)<2:=by omega
  clear hs
  go_enter Tryz.func209,Tryz.ntmps209
  go_wp2
  go_ret2
  exact⟨rfl,rfl⟩
 ·have e2 : ¬ (len:Int)<2:=by omega
  obtain⟨b,o,rfl,hb,hc⟩:=hs (by rw[hl.out];omega)
  rw[hl.out] at hc
  obtain⟨x,n,r,rfl⟩ : ∃ x n r,l=x::n::r:=by
   match l,hl with
   | [],h=>have:=h.out;simp at this;omega
   | [_],h=>have:=h.out;simp at this;omega
   | x::n::r,_=>exact⟨x,n,r,rfl⟩
  have c0:w.cell? ⟨b,o,none⟩=some (.int .u8 (x.toNat:Int)):=hc 0 (by omega)
  have c1:w.cell? ⟨b,o+1,none⟩=some (.int .u8 (n.toNat:Int)):=hc 1 (by omega)
  have hrl:r.length+2=len:=by have:=hl.out;simpa using this
  have hx:=x.toNat_lt
  have hn:=n.toNat_lt
  have ex:IntKind.i64.wrap (x.toNat:Int)=(x.toNat:Int):=wrap_nat _ (by omega)
  have en:IntKind.i64.wrap (n.toNat:Int)=(n.toNat:Int):=wrap_nat _ (by omega)
  obtain⟨X,hX⟩ : ∃ X:Nat,x.toNat=X:=⟨_,rfl⟩
  obtain⟨M,hM⟩ : ∃ M:Nat,n.toNat=M:=⟨_,rfl⟩
  rw[hX] at c0 hx ex
  rw[hM] at c1 hn en
  have HB:Hid (T.bad least x n r↔(X<least\/M=0\/32<M\/r.length<M\/r.getD (M - 1) 0=0)):=by
   show T.bad least x n r↔_
   unfold T.bad;rw[hX,hM]
  have HOK:Hid (T.okw least (x::n::r)=if T.bad least x n r then none else some (2+M)):=by
   show T.okw least (x::n::r)=_
   rw[<- hM];rfl
  by_cases b1:X<least
  ·have e3:(X:Int)<(least:Int):=by omega
   have hok:T.okw least (x::n::r)=none:=by rw[HOK.out,if_pos (HB.out.2 (Or.inl b1))]
   rw[hok]
   clear hc hX hM hrl hl hs
   go_enter Tryz.func209,Tryz.ntmps209
   go_wp2
   go_ret2
   exact⟨rfl,rfl⟩
  ·have e3 : ¬ (X:Int)<(least:Int):=by omega
   by_cases b2:M=0
   ·have e4:((M:Int) == 0)=true:=by simp[b2]
    have hok:T.okw least (x::n::r)=none:=by rw[HOK.out,if_pos (HB.out.2 (Or.inr (Or.inl b2)))]
    rw[hok]
    clear hc hX hM hrl hl hs b2
    go_enter Tryz.func209,Tryz.ntmps209
    go_wp2
    go_ret2
    exact⟨rfl,rfl⟩
   ·have e4:((M:Int) == 0)=false:=by simp;omega
    by_cases b3:32<M
    ·have e5:(32:Int)<(M:Int):=by omega
     have hok:T.okw least (x::n::r)=none:=by rw[HOK.out,if_pos (HB.out.2 (Or.inr (Or.inr (Or.inl b3))))]
     rw[hok]
     clear hc hX hM hrl hl hs b2
     go_enter Tryz.func209,Tryz.ntmps209
     go_wp2
     go_ret2
     exact⟨rfl,rfl⟩
    ·have e5 : ¬ (32:Int)<(M:Int):=by omega
     by_cases b4:r.length<M
     ·have e6:(len:Int)<2+(M:Int):=by omega
      have hok:T.okw least (x::n::r)=none:=by rw[HOK.out,if_pos (HB.out.2 (Or.inr (Or.inr (Or.inr (Or.inl b4)))))]
      rw[hok]
      clear hc hX hM hrl hl hs b2
      go_enter Tryz.func209,Tryz.ntmps209
      go_wp2
      go_ret2
      exact⟨rfl,rfl⟩
     ·have e6 : ¬ (len:Int)<2+(M:Int):=by omega
      have c2:=hc (1+M) (by omega)
      rw[show (x::n::r).getD (1+M) 0=r.getD (M - 1) 0 by
       rw[show 1+M=(M - 1)+2 by omega];rfl] at c2
      obtain⟨y,hy⟩ : ∃ y,r.getD (M - 1) 0=y:=⟨_,rfl⟩
      rw[hy] at c2
      obtain⟨j,hj⟩ : ∃ j:Nat,1+M=j:=⟨_,rfl⟩
      rw[hj] at c2
      have hjl:j<len:=by omega
      have ej:2+(M:Int) - 1=(j:Int):=by omega
      by_cases b5:y=0
      ·have e7:((y.toNat:Int) == 0)=true:=by simp[b5]
       have hok:T.okw least (x::n::r)=none:=by rw[HOK.out,if_pos (HB.out.2 (Or.inr (Or.inr (Or.inr (Or.inr (by rw[hy];exact b5))))))]
       rw[hok]
       clear hc hX hM hrl hl hs b2 hy hj b5
       go_enter Tryz.func209,Tryz.ntmps209
       go_wp2
       go_ret2
       exact⟨rfl,rfl⟩
      ·have e7:((y.toNat:Int) == 0)=false:=by
        have:y.toNat≠0:=fun h=>b5 (UInt8.toNat_inj.1 h)
        simp;omega
       have hok:T.okw least (x::n::r)=some (2+M):=by
        rw[HOK.out,if_neg]
        rintro hb
        rcases HB.out.1 hb with h | h | h | h | h
        ·exact b1 h
        ·exact b2 h
        ·exact b3 h
        ·exact b4 h
        ·rw[hy] at h;exact b5 h
       rw[hok]
       clear hc hX hM hrl hl hs b2 hy hj b5
       go_enter Tryz.func209,Tryz.ntmps209
       go_wp2
       go_ret2
       exact⟨by simp[T.okv],rfl⟩
open Go.RowKit
namespace T
theorem okw_none {least:Nat} {l:List UInt8} (h:okw least l=none) (h0:0<l.length):opn least l=none:=by
 match l,h,h0 with
 | [x],_,_=>exact opn_one least x
 | x::n::r,h,_ =>
  rw[opn_two]
  by_cases hb:bad least x n r
  ·rw[if_pos hb]
  ·rw[okw,if_neg hb] at h;cases h
theorem okw_some {least k:Nat} {l:List UInt8} (h:okw least l=some k) : ∃ x n r,l=x::n::r/\k=2+n.toNat/\0<n.toNat/\n.toNat<=32/\n.toNat<=r.length/\opn least l=(opn (x.toNat+1) (r.drop n.toNat)).map (typ x.toNat (r.take n.toNat) ++ ·):=by
 match l,h with
 | x::n::r,h =>
  by_cases hb:bad least x n r
  ·rw[okw,if_pos hb] at h;cases h
  ·rw[okw,if_neg hb] at h
   have hk:=Option.some.inj h
   have hb':=hb
   unfold bad at hb'
   exact⟨x,n,r,rfl,hk.symm,by omega,by omega,by omega,by rw[opn_two,if_neg hb]⟩
theorem typ_len (w:Nat) (b:List UInt8):(typ w b).length<=8*b.length:=by
 unfold typ places;rw[List.length_map];exact Nat.le_trans (List.length_filter_le _ _) (by simp)
end T
set_option maxRecDepth 3000 in
set_option maxHeartbeats 3200000 in
theorem topen_any (l:List UInt8) (ao:Option Addr) (len cap:Nat) (w:World) (hl:Hid (l.length=len)) (hs:SlL w ao l) (hc1:len<=cap) (hc2:cap<=9223372036854775807) (hlen:len<=100000) :
 Calls Tryz.prog 186 #[.slice ao len cap] w fun e w'=>Below w.heap.size w w'/\((∃ m v,T.opn 0 l=some m/\e = .returned (.tuple #[v,.int .i64 0])/\OwnH w' w.heap.size v m)\/(T.opn 0 l=none/\e = .returned (.tuple #[.slice none 0 0,.int .i64 40]))):=by
 go_enter Tryz.func186,Tryz.ntmps186
 go_wp2
 go_loopw [0,4,5] (fun v0 v4 v5 W => ∃ (rest:List UInt8) (ao:Option Addr) (cap least:Nat) (m:List UInt16),v0 = .slice ao rest.length cap/\v5 = .int .i64 (least:Int)/\SlL w ao rest/\rest.length<=cap/\cap<=9223372036854775807/\rest.length<=len/\least<=256/\OwnH W w.heap.size v4 m/\Below w.heap.size w W/\m.length+8*rest.length<=8*len/\T.opn 0 l=(T.opn least rest).map (m ++ ·)) (fun v0 _ _ _=>lenOf v0)
 case atStart=>exact⟨l,ao,cap,0, [],by rw[hl.out],rfl,hs,by rw[hl.out];exact hc1,hc2,by rw[hl.out];exact Nat.le_refl _,by omega,OwnH.nil _ _,Below.refl _ _,by rw[hl.out];simp,by cases T.opn 0 l <;> simp⟩
 case round =>
  clear hs hc1 hc2
  obtain⟨rest,ao2,cap2,least,m,rfl,rfl,hS,hcap,hmax,hrl,hle,hO,hB,hml,hE⟩:=hrel
  have hz:=hB.size
  have HE:=hide hE
  have HO:=hide hO
  clear hE hO
  by_cases h0:rest.length=0
  ·obtain rfl:rest = []:=List.eq_nil_of_length_eq_zero h0
   go_wp2
   go_ret2
   refine⟨hB,Or.inl ⟨m,_,?_,rfl,HO.out⟩⟩
   rw[HE.out,T.opn_nil];simp
  ·have e0:(0:Int)<(rest.length:Int):=by omega
   have hSw:SlL wr ao2 rest:=hS.below hB (Nat.le_refl _)
   have cw:=openWindow_any rest ao2 rest.length cap2 least wr rfl hSw (by omega)
   cases hok:T.okw least rest with
   | none =>
    rw[hok] at cw
    have hnone:=T.okw_none hok (by omega)
    have HN:=hide hnone
    clear hnone hok
    go_wp2_with (go_at_call 209;refine cw.mono ?_;unfold T.okv;rintro e w2 ⟨rfl,rfl⟩)
    go_ret2
    exact⟨hB,Or.inr ⟨by rw[HE.out,HN.out];rfl,rfl⟩⟩
   | some k =>
    rw[hok] at cw
    obtain⟨x,n,r,rfl,rfl,n0,n32,nr,hop⟩:=T.okw_some hok
    obtain⟨b,o,rfl,hb,hcc⟩:=hS (by omega)
    have hrl2:(x::n::r).length=r.length+2:=by simp
    rw[hrl2] at cw hcap hrl hml hcc e0
    obtain⟨_,_,e,_,hcr⟩:=hSw (by simp)
    cases e
    have c0:wr.cell? ⟨b,o,none⟩=some (.int .u8 (x.toNat:Int)):=hcr 0 (by simp)
    have hx:=x.toNat_lt
    have htl:=T.typ_len x.toNat (r.take n.toNat)
    rw[List.length_take] at htl
    have hS2:SlL wr (some ⟨b,o+2,none⟩) (r.take n.toNat):=by
     have:=(SlL.drop (k:=2) hSw (by simp)).take n.toNat
     simpa using this
    have hS3:SlL w (some ⟨b,o+(2+n.toNat),none⟩) (r.drop n.toNat):=by
     have:=SlL.drop (k:=2+n.toNat) hS (by simp;omega)
     rw[show (x::n::r).drop (2+n.toNat)=r.drop n.toNat by
      rw[show 2+n.toNat=n.toNat+2 by omega];rfl] at this
     exact this
    have hd3:(r.drop n.toNat).length=r.length - n.toNat:=List.length_drop
    have htk:(r.take n.toNat).length=n.toNat:=by rw[List.length_take];omega
    obtain⟨X,hX⟩ : ∃ X:Nat,x.toNat=X:=⟨_,rfl⟩
    obtain⟨M,hM⟩ : ∃ M:Nat,n.toNat=M:=⟨_,rfl⟩
    rw[hX] at c0 hx htl hop
    rw[hM] at n0 n32 nr hop hS2 hS3 hd3 htk htl cw
    have ex:IntKind.i64.wrap (X:Int)=(X:Int):=wrap_nat _ (by omega)
    have ca:=fun v hO=>appendTypes_any X (r.take M) m w.heap.size b (o+2) M (cap2 - 2) v wr htk n32 n0 hx hS2 hb hO hz (by omega)
    have hne : ¬ cap2=2:=by omega
    have hle2:2+M<=cap2:=by omega
    have hle3:2+M<=r.length+2:=by omega
    have HOP:=hide hop
    have HD:=hide hd3
    have HTL:=hide htl
    have HTK:=hide htk
    clear hcc hcr hS hSw hS2 hX hM hok hop hd3 htl htk
    generalize r.take M=rt at *
    generalize hrd:r.drop M=rd at *
    clear hrd
    simp only[List.length_cons]
    go_wp2_with (first
     | (go_at_call 209;refine cw.mono ?_;unfold T.okv;rintro e w2 ⟨rfl,rfl⟩)
     | (go_at_call 210;refine (ca _ HO.out).mono ?_;rintro e w3 ⟨v3,rfl,hO3,hB3⟩))
    go_roundw
    case rel =>
     have hd:=HD.out
     have htl:=HTL.out
     refine⟨rd,_,cap2 - (2+M),X+1,m++T.typ X rt,by rw[hd,show r.length+1+1 - (2+M)=r.length - M by omega],by go_num,?_,by omega,by omega,by omega,by omega,hO3,hB.trans hB3,?_,?_⟩
     ·by_cases e:cap2=2+M
      ·intro hn;omega
      ·rw[if_neg e];exact hS3
     ·rw[List.length_append];omega
     ·rw[HE.out,HOP.out]
      cases T.opn (X+1) rd <;> simp
    case measure=>simp[lenOf];omega
end Go.Proofs.YtmbcegljmhcdeaaGreat
namespace Go.Proofs.YtmbcegljmhcdeaaGreat
set_option maxRecDepth 5000
open Go.RowKit
set_option maxRecDepth 5000 in
theorem below_drewN {B:Nat} {w w':World} (h:Below B w w') (n:Nat):Below B w (w'.drewN n):=⟨h.os,h.tape,h.output,h.size,h.block⟩
end Go.Proofs.YtmbcegljmhcdeaaGreat
namespace Go.Proofs.YtmbcegljmhcdeaaGreat
set_option maxRecDepth 5000
open Go.RowKit
set_option maxRecDepth 10000 in
set_option maxHeartbeats 12800000 in
theorem ropen_any (l:List UInt8) (ao:Option Addr) (len cap:Nat) (w:World) (hl:Hid (l.length=len)) (hs:SlL w ao l) (hlen:len<=100000) :
 Calls Tryz.prog 159 #[.slice ao len cap] w fun e w'=>Below w.heap.size w w'/\((∃ m v,T.opn 0 l=some m/\e = .returned (.tuple #[v,.int .i64 0])/\OwnH w' w.heap.size v m)\/(T.opn 0 l=none/\e = .returned (.tuple #[.slice none 0 0,.int .i64 40]))):=by
 have HS:=hide hs
 clear hs
 go_enter Tryz.func159,Tryz.ntmps159
 go_wp2
 go_loopw [4,5,6] (fun v4 v5 v6 W => ∃ (i least:Nat) (m:List UInt16),v6 = .int .i64 (i:Int)/\i<=len/\v5 = .int .i64 ((least:Int) - 1)/\least<=256/\OwnH W w.heap.size v4 m/\Below w.heap.size w W/\m.length<=8*i/\T.opn 0 l=(T.opn least (l.drop i)).map (m ++ ·)) (fun _ _ v6 _=>len - (intOf v6).toNat)
 case atStart=>exact⟨0,0, [],rfl,by omega,rfl,by omega,OwnH.nil _ _,Below.refl _ _,by simp,by rw[List.drop_zero];cases T.opn 0 l <;> simp⟩
 case round =>
  obtain⟨i,least,m,rfl,hi,rfl,hle,hO,hB,hml,hE⟩:=hrel
  have hz:=hB.size
  have HE:=hide hE
  have HO:=hide hO
  clear hE hO
  by_cases hil:i<len
  ·obtain⟨b,o,rfl,hb,hc⟩:=HS.out (by rw[hl.out];omega)
   rw[hl.out] at hc
   have hci:=fun j (hj:j<len)=>(hB.cell (p:=⟨b,o+j,none⟩) hb).trans (hc j hj)
   have HC:=hide hc
   clear hc
   by_cases h2:len<i+2
   ·have e2:(len:Int)<(i:Int)+2:=by omega
    have hone : ∃ x,l.drop i = [x]:=by
     have hdl:(l.drop i).length=1:=by rw[List.length_drop,hl.out];omega
     exact List.length_eq_one_iff.1 hdl
    obtain⟨x,hx⟩:=hone
    rw[hx,T.opn_one] at HE
    clear hci
    go_wp2
    go_ret2
    exact⟨hB,Or.inr ⟨HE.out,rfl⟩⟩
   ·have e2 : ¬ (len:Int)<(i:Int)+2:=by omega
    obtain⟨x,n,r,hrd⟩ : ∃ x n r,l.drop i=x::n::r:=by
     have hdl:(l.drop i).length=len - i:=by rw[List.length_drop,hl.out]
     match h:l.drop i with
     | []=>rw[h] at hdl;simp at hdl;omega
     | [_]=>rw[h] at hdl;simp at hdl;omega
     | x::n::r=>exact⟨x,n,r,rfl⟩
    have hrl:r.length+2=len - i:=by
     have:=congrArg List.length hrd
     rw[List.length_drop,hl.out] at this;simp at this;omega
    have hgd : ∀ j,l.getD (i+j) 0=(x::n::r).getD j 0:=fun j=>by
     rw[<- hrd,List.getD_eq_getElem?_getD,List.getD_eq_getElem?_getD,List.getElem?_drop]
    have c0:=hci i hil
    rw[show l.getD i 0=x from hgd 0] at c0
    have c1:=hci (i+1) (by omega)
    rw[hgd 1] at c1
    have c1':wr.cell? ⟨b,o+(i+1),none⟩=some (.int .u8 (n.toNat:Int)):=c1
    clear c1
    have hx0:=x.toNat_lt
    have hn0:=n.toNat_lt
    rw[hrd] at HE
    have HBD:Hid (T.bad least x n r↔(x.toNat<least\/n.toNat=0\/32<n.toNat\/r.length<n.toNat\/r.getD (n.toNat - 1) 0=0)):=Iff.rfl
    have hop : ¬ T.bad least x n r->T.opn least (x::n::r)=(T.opn (x.toNat+1) (r.drop n.toNat)).map (T.typ x.toNat (r.take n.toNat) ++ ·):=fun h=>by rw[T.opn_two,if_neg h]
    have hd2:l.drop (i+(2+n.toNat))=r.drop n.toNat:=by
     rw[<- List.drop_drop,hrd,show 2+n.toNat=n.toNat+2 by omega];rfl
    obtain⟨X,hX⟩ : ∃ X:Nat,x.toNat=X:=⟨_,rfl⟩
    obtain⟨M,hM⟩ : ∃ M:Nat,n.toNat=M:=⟨_,rfl⟩
    rw[hX] at c0 hx0 HBD hop
    rw[hM] at c1' hn0 HBD hop hd2
    have ex:IntKind.i64.wrap (X:Int)=(X:Int):=wrap_nat _ (by omega)
    have en:IntKind.i64.wrap (M:Int)=(M:Int):=wrap_nat _ (by omega)
    have HOP:=hide hop
    have HD2:=hide hd2
    have HGD:=hide hgd
    clear hop hd2 hgd hX hM hrd
    have hi1:i+1<len:=by omega
    by_cases b1:X<least
    ·have e3:(X:Int)<=(least:Int) - 1:=by omega
     clear hci
     go_wp2
     go_quiet (fail)
     have hnone:T.opn least (x::n::r)=none:=by rw[T.opn_two,if_pos (HBD.out.2 (Or.inl b1))]
     have HNO:=hide hnone
     clear hnone
     go_wp2
     go_ret2
     exact⟨below_drewN hB _,Or.inr ⟨by rw[HE.out,HNO.out];rfl,rfl⟩⟩
    ·have e3 : ¬ (X:Int)<=(least:Int) - 1:=by omega
     by_cases b2:M=0
     ·have e4:(M:Int)<1:=by omega
      clear hci
      go_wp2
      go_quiet (fail)
      have hnone:T.opn least (x::n::r)=none:=by rw[T.opn_two,if_pos (HBD.out.2 (Or.inr (Or.inl b2)))]
      have HNO:=hide hnone
      clear hnone
      go_wp2
      go_ret2
      exact⟨below_drewN hB _,Or.inr ⟨by rw[HE.out,HNO.out];rfl,rfl⟩⟩
     ·have e4 : ¬ (M:Int)<1:=by omega
      by_cases b3:32<M
      ·have e5:(32:Int)<(M:Int):=by omega
       clear hci
       go_wp2
       go_quiet (fail)
       have hnone:T.opn least (x::n::r)=none:=by rw[T.opn_two,if_pos (HBD.out.2 (Or.inr (Or.inr (Or.inl b3))))]
       have HNO:=hide hnone
       clear hnone
       go_wp2
       go_ret2
       exact⟨below_drewN hB _,Or.inr ⟨by rw[HE.out,HNO.out];rfl,rfl⟩⟩
      ·have e5 : ¬ (32:Int)<(M:Int):=by omega
       by_cases b4:r.length<M
       ·have e6:(len:Int)<(i:Int)+2+(M:Int):=by omega
        clear hci
        go_wp2
        go_quiet (fail)
        have hnone:T.opn least (x::n::r)=none:=by rw[T.opn_two,if_pos (HBD.out.2 (Or.inr (Or.inr (Or.inr (Or.inl b4)))))]
        have HNO:=hide hnone
        clear hnone
        go_wp2
        go_ret2
        exact⟨below_drewN hB _,Or.inr ⟨by rw[HE.out,HNO.out];rfl,rfl⟩⟩
       ·have e6 : ¬ (len:Int)<(i:Int)+2+(M:Int):=by omega
        have c2:=hci (i+1+M) (by omega)
        rw[show l.getD (i+1+M) 0=r.getD (M - 1) 0 by
         rw[show i+1+M=i+((M - 1)+2) by omega,HGD.out];rfl] at c2
        obtain⟨y0,hy0⟩ : ∃ y0,r.getD (M - 1) 0=y0:=⟨_,rfl⟩
        rw[hy0] at c2
        have hi2:i+1+M<len:=by omega
        by_cases b5:y0=0
        ·have e7:((y0.toNat:Int) == 0)=true:=by simp[b5]
         have HWH:Hid (r.getD (M - 1) 0=0):=by show r.getD (M - 1) 0=0;rw[hy0];exact b5
         clear hci b5 hy0
         go_wp2
         go_quiet (fail)
         have hnone:T.opn least (x::n::r)=none:=by rw[T.opn_two,if_pos (HBD.out.2 (Or.inr (Or.inr (Or.inr (Or.inr HWH.out)))))]
         have HNO:=hide hnone
         clear hnone
         go_wp2
         go_ret2
         exact⟨below_drewN hB _,Or.inr ⟨by rw[HE.out,HNO.out];rfl,rfl⟩⟩
        ·have e7:((y0.toNat:Int) == 0)=false:=by
          have:y0.toNat≠0:=fun h=>b5 (UInt8.toNat_inj.1 h)
          simp;omega
         have HGB:Hid (¬ T.bad least x n r):=fun hbd=>by
          rcases HBD.out.1 hbd with h | h | h | h | h
          ·exact b1 h
          ·exact b2 h
          ·exact b3 h
          ·exact b4 h
          ·rw[hy0] at h;exact b5 h
         clear b5 hy0 hci
         go_wp2
         go_quiet (fail)
         have HO2:Hid (OwnH (wr.drewN nq) w.heap.size u4 m):=HO.out
         have hB2:=below_drewN hB nq
         have c22:(wr.drewN nq).cell? ⟨b,o+(i+1+M),none⟩=some (.int .u8 (y0.toNat:Int)):=c2
         clear hB HO c0 c1' c2 hz
         generalize wr.drewN nq=W1 at HO2 hB2 c22 ⊢
         clear nq
         obtain⟨bs,hbs⟩ : ∃ bs,r.take M=bs:=⟨_,rfl⟩
         have hbl:bs.length=M:=by rw[<- hbs,List.length_take];omega
         have HBG:Hid (∀ k,k<M->l.getD (i+2+k) 0=bs.getD k 0):=fun k hk=>by
          rw[show i+2+k=i+(k+2) by omega,HGD.out, <- hbs]
          show r.getD k 0=_
          rw[List.getD_eq_getElem?_getD,List.getD_eq_getElem?_getD,List.getElem?_take_of_lt hk]
         rw[hbs] at HOP
         have HBL:=hide hbl
         have hx:X<256:=by omega
         clear hbs hbl
         go_wp2
         go_loopw [4,9] (fun v u W => ∃ k:Nat,u = .int .i64 (k:Int)/\k<=M/\OwnH W w.heap.size v (m++T.typUp X bs (8*k))/\Below w.heap.size w W) (fun _ u _=>M - (intOf u).toNat)
         case atStart=>exact⟨0,rfl,by omega,(by simpa [T.typUp] using HO2.out),hB2⟩
         case round =>
          clear HO2 hB2 c22
          obtain⟨k,rfl,hkM,hO,hB⟩:=hrel
          by_cases hk:k<M
          ·have ek:(k:Int)<(M:Int):=by omega
           go_wp2
           go_loopw [4,10] (fun v u W => ∃ j:Nat,u = .int .i64 (j:Int)/\j<=8/\OwnH W w.heap.size v (m++T.typUp X bs (8*k+j))/\Below w.heap.size w W) (fun _ u _=>8 - (intOf u).toNat)
           case atStart=>exact⟨0,rfl,by omega,hO,hB⟩
           case round =>
            clear hO hB
            obtain⟨j,rfl,hj8,hO,hB⟩:=hrel
            have hz:=hB.size
            by_cases hj:j<8
            ·have cy:=(hB.cell (p:=⟨b,o+(i+2+k),none⟩) hb).trans (HC.out (i+2+k) (by omega))
             rw[HBG.out k hk] at cy
             obtain⟨y,hy⟩ : ∃ y,bs.getD k 0=y:=⟨_,rfl⟩
             rw[hy] at cy
             have HY:=hide hy
             have HO:=hide hO
             have hikl:i+2+k<len:=by omega
             have hmb:m.length<=800000:=by omega
             clear hy hO
             rcases (by omega:j=0\/j=1\/j=2\/j=3\/j=4\/j=5\/j=6\/j=7) with hr | hr | hr | hr | hr | hr | hr | hr
             ·subst hr
              have hhas:=T.and_has bs (8*k+0)
              rw[show (8*k+0) / 8=k by omega,show 7 - (8*k+0) % 8=7 by omega,HY.out,show (2 ^ 7:Nat)=128 from rfl] at hhas
              have e3:bits .and .u8 (y.toNat:Int) 128=((y.toNat &&& 128:Nat):Int):=u8_and_nat y.toNat 128 y.toNat_lt (by omega)
              obtain⟨z,hzz⟩ : ∃ z:Nat,y.toNat &&& 128=z:=⟨_,rfl⟩
              rw[hzz] at hhas e3
              have HH:=hide hhas
              have e6:IntKind.u16.wrap ((X:Int)*256+(k:Int)*8+0)=((T.mk X (8*k+0)).toNat:Int):=by
               rw[T.mk_nat X (8*k+0) hx (by omega),IntKind.wrap_u16];omega
              clear hhas hzz
              by_cases hz0:z=0
              ·have hno:T.has bs (8*k+0)=false:=by
                have : ¬ T.has bs (8*k+0)=true:=fun h=>(HH.out.2 h) hz0
                simpa using this
               have e5:((z:Int) != 0)=false:=by simp[hz0]
               go_wp2
               go_quiet (fail)
               go_wp2
               go_roundw
               case rel=>exact⟨1,rfl,by omega,(by rw[show 8*k+1=(8*k+0)+1 by omega,T.typUp_no X bs _ hno];exact HO.out),below_drewN hB _⟩
               case measure=>simp[intOf]
              ·have hyes:T.has bs (8*k+0)=true:=HH.out.1 hz0
               have e5:((z:Int) != 0)=true:=by simp[hz0]
               have hml:(m++T.typUp X bs (8*k+0)).length<=1000256:=by rw[List.length_append];have:=T.typUp_len X bs (8*k+0);omega
               go_wp2
               go_quiet (fail)
               have HO2:Hid (OwnH (wr.drewN nq) w.heap.size u4 (m++T.typUp X bs (8*k+0))):=HO.out
               have hB2:=below_drewN hB nq
               have hz2:=hB2.size
               clear hB HO cy hz
               generalize wr.drewN nq=w2 at HO2 hB2 hz2 ⊢
               clear nq
               go_wp2_with (at_builtin;refine wpList_append_H rfl (.tmp 81) (.tmp 90) rfl w.heap.size _ (m++T.typUp X bs (8*k+0)) rfl (by exact HO2.out.alloc _) _ _ _ [T.mk X (8*k+0)] rfl rfl (SlH.oneI _ _ _ _ (by first | rfl | (rw[T.mk_nat X _ hx (by omega)];omega))) (by simp) (by simp at hml ⊢; omega) (by simp;omega) ?_;intro v4 w4 hO4 hG4;have hB4:=grown_belowH (HO2.out.alloc _) hG4 (hB2.alloc hz2 _) (by simp;omega);clear hG4)
               go_roundw
               case rel=>exact⟨1,rfl,by omega,(by rw[show 8*k+1=(8*k+0)+1 by omega,T.typUp_yes X bs _ hyes, <- List.append_assoc];exact hO4),hB4⟩
               case measure=>simp[intOf]
             ·subst hr
              have hhas:=T.and_has bs (8*k+1)
              rw[show (8*k+1) / 8=k by omega,show 7 - (8*k+1) % 8=6 by omega,HY.out,show (2 ^ 6:Nat)=64 from rfl] at hhas
              have e3:bits .and .u8 (y.toNat:Int) 64=((y.toNat &&& 64:Nat):Int):=u8_and_nat y.toNat 64 y.toNat_lt (by omega)
              obtain⟨z,hzz⟩ : ∃ z:Nat,y.toNat &&& 64=z:=⟨_,rfl⟩
              rw[hzz] at hhas e3
              have HH:=hide hhas
              have e6:IntKind.u16.wrap ((X:Int)*256+(k:Int)*8+1)=((T.mk X (8*k+1)).toNat:Int):=by
               rw[T.mk_nat X (8*k+1) hx (by omega),IntKind.wrap_u16];omega
              clear hhas hzz
              by_cases hz0:z=0
              ·have hno:T.has bs (8*k+1)=false:=by
                have : ¬ T.has bs (8*k+1)=true:=fun h=>(HH.out.2 h) hz0
                simpa using this
               have e5:((z:Int) != 0)=false:=by simp[hz0]
               go_wp2
               go_quiet (fail)
               go_wp2
               go_roundw
               case rel=>exact⟨2,rfl,by omega,(by rw[show 8*k+2=(8*k+1)+1 by omega,T.typUp_no X bs _ hno];exact HO.out),below_drewN hB _⟩
               case measure=>simp[intOf]
              ·have hyes:T.has bs (8*k+1)=true:=HH.out.1 hz0
               have e5:((z:Int) != 0)=true:=by simp[hz0]
               have hml:(m++T.typUp X bs (8*k+1)).length<=1000256:=by rw[List.length_append];have:=T.typUp_len X bs (8*k+1);omega
               go_wp2
               go_quiet (fail)
               have HO2:Hid (OwnH (wr.drewN nq) w.heap.size u4 (m++T.typUp X bs (8*k+1))):=HO.out
               have hB2:=below_drewN hB nq
               have hz2:=hB2.size
               clear hB HO cy hz
               generalize wr.drewN nq=w2 at HO2 hB2 hz2 ⊢
               clear nq
               go_wp2_with (at_builtin;refine wpList_append_H rfl (.tmp 81) (.tmp 90) rfl w.heap.size _ (m++T.typUp X bs (8*k+1)) rfl (by exact HO2.out.alloc _) _ _ _ [T.mk X (8*k+1)] rfl rfl (SlH.oneI _ _ _ _ (by first | rfl | (rw[T.mk_nat X _ hx (by omega)];omega))) (by simp) (by simp at hml ⊢; omega) (by simp;omega) ?_;intro v4 w4 hO4 hG4;have hB4:=grown_belowH (HO2.out.alloc _) hG4 (hB2.alloc hz2 _) (by simp;omega);clear hG4)
               go_roundw
               case rel=>exact⟨2,rfl,by omega,(by rw[show 8*k+2=(8*k+1)+1 by omega,T.typUp_yes X bs _ hyes, <- List.append_assoc];exact hO4),hB4⟩
               case measure=>simp[intOf]
             ·subst hr
              have hhas:=T.and_has bs (8*k+2)
              rw[show (8*k+2) / 8=k by omega,show 7 - (8*k+2) % 8=5 by omega,HY.out,show (2 ^ 5:Nat)=32 from rfl] at hhas
              have e3:bits .and .u8 (y.toNat:Int) 32=((y.toNat &&& 32:Nat):Int):=u8_and_nat y.toNat 32 y.toNat_lt (by omega)
              obtain⟨z,hzz⟩ : ∃ z:Nat,y.toNat &&& 32=z:=⟨_,rfl⟩
              rw[hzz] at hhas e3
              have HH:=hide hhas
              have e6:IntKind.u16.wrap ((X:Int)*256+(k:Int)*8+2)=((T.mk X (8*k+2)).toNat:Int):=by
               rw[T.mk_nat X (8*k+2) hx (by omega),IntKind.wrap_u16];omega
              clear hhas hzz
              by_cases hz0:z=0
              ·have hno:T.has bs (8*k+2)=false:=by
                have : ¬ T.has bs (8*k+2)=true:=fun h=>(HH.out.2 h) hz0
                simpa using this
               have e5:((z:Int) != 0)=false:=by simp[hz0]
               go_wp2
               go_quiet (fail)
               go_wp2
               go_roundw
               case rel=>exact⟨3,rfl,by omega,(by rw[show 8*k+3=(8*k+2)+1 by omega,T.typUp_no X bs _ hno];exact HO.out),below_drewN hB _⟩
               case measure=>simp[intOf]
              ·have hyes:T.has bs (8*k+2)=true:=HH.out.1 hz0
               have e5:((z:Int) != 0)=true:=by simp[hz0]
               have hml:(m++T.typUp X bs (8*k+2)).length<=1000256:=by rw[List.length_append];have:=T.typUp_len X bs (8*k+2);omega
               go_wp2
               go_quiet (fail)
               have HO2:Hid (OwnH (wr.drewN nq) w.heap.size u4 (m++T.typUp X bs (8*k+2))):=HO.out
               have hB2:=below_drewN hB nq
               have hz2:=hB2.size
               clear hB HO cy hz
               generalize wr.drewN nq=w2 at HO2 hB2 hz2 ⊢
               clear nq
               go_wp2_with (at_builtin;refine wpList_append_H rfl (.tmp 81) (.tmp 90) rfl w.heap.size _ (m++T.typUp X bs (8*k+2)) rfl (by exact HO2.out.alloc _) _ _ _ [T.mk X (8*k+2)] rfl rfl (SlH.oneI _ _ _ _ (by first | rfl | (rw[T.mk_nat X _ hx (by omega)];omega))) (by simp) (by simp at hml ⊢; omega) (by simp;omega) ?_;intro v4 w4 hO4 hG4;have hB4:=grown_belowH (HO2.out.alloc _) hG4 (hB2.alloc hz2 _) (by simp;omega);clear hG4)
               go_roundw
               case rel=>exact⟨3,rfl,by omega,(by rw[show 8*k+3=(8*k+2)+1 by omega,T.typUp_yes X bs _ hyes, <- List.append_assoc];exact hO4),hB4⟩
               case measure=>simp[intOf]
             ·subst hr
              have hhas:=T.and_has bs (8*k+3)
              rw[show (8*k+3) / 8=k by omega,show 7 - (8*k+3) % 8=4 by omega,HY.out,show (2 ^ 4:Nat)=16 from rfl] at hhas
              have e3:bits .and .u8 (y.toNat:Int) 16=((y.toNat &&& 16:Nat):Int):=u8_and_nat y.toNat 16 y.toNat_lt (by omega)
              obtain⟨z,hzz⟩ : ∃ z:Nat,y.toNat &&& 16=z:=⟨_,rfl⟩
              rw[hzz] at hhas e3
              have HH:=hide hhas
              have e6:IntKind.u16.wrap ((X:Int)*256+(k:Int)*8+3)=((T.mk X (8*k+3)).toNat:Int):=by
               rw[T.mk_nat X (8*k+3) hx (by omega),IntKind.wrap_u16];omega
              clear hhas hzz
              by_cases hz0:z=0
              ·have hno:T.has bs (8*k+3)=false:=by
                have : ¬ T.has bs (8*k+3)=true:=fun h=>(HH.out.2 h) hz0
                simpa using this
               have e5:((z:Int) != 0)=false:=by simp[hz0]
               go_wp2
               go_quiet (fail)
               go_wp2
               go_roundw
               case rel=>exact⟨4,rfl,by omega,(by rw[show 8*k+4=(8*k+3)+1 by omega,T.typUp_no X bs _ hno];exact HO.out),below_drewN hB _⟩
               case measure=>simp[intOf]
              ·have hyes:T.has bs (8*k+3)=true:=HH.out.1 hz0
               have e5:((z:Int) != 0)=true:=by simp[hz0]
               have hml:(m++T.typUp X bs (8*k+3)).length<=1000256:=by rw[List.length_append];have:=T.typUp_len X bs (8*k+3);omega
               go_wp2
               go_quiet (fail)
               have HO2:Hid (OwnH (wr.drewN nq) w.heap.size u4 (m++T.typUp X bs (8*k+3))):=HO.out
               have hB2:=below_drewN hB nq
               have hz2:=hB2.size
               clear hB HO cy hz
               generalize wr.drewN nq=w2 at HO2 hB2 hz2 ⊢
               clear nq
               go_wp2_with (at_builtin;refine wpList_append_H rfl (.tmp 81) (.tmp 90) rfl w.heap.size _ (m++T.typUp X bs (8*k+3)) rfl (by exact HO2.out.alloc _) _ _ _ [T.mk X (8*k+3)] rfl rfl (SlH.oneI _ _ _ _ (by first | rfl | (rw[T.mk_nat X _ hx (by omega)];omega))) (by simp) (by simp at hml ⊢; omega) (by simp;omega) ?_;intro v4 w4 hO4 hG4;have hB4:=grown_belowH (HO2.out.alloc _) hG4 (hB2.alloc hz2 _) (by simp;omega);clear hG4)
               go_roundw
               case rel=>exact⟨4,rfl,by omega,(by rw[show 8*k+4=(8*k+3)+1 by omega,T.typUp_yes X bs _ hyes, <- List.append_assoc];exact hO4),hB4⟩
               case measure=>simp[intOf]
             ·subst hr
              have hhas:=T.and_has bs (8*k+4)
              rw[show (8*k+4) / 8=k by omega,show 7 - (8*k+4) % 8=3 by omega,HY.out,show (2 ^ 3:Nat)=8 from rfl] at hhas
              have e3:bits .and .u8 (y.toNat:Int) 8=((y.toNat &&& 8:Nat):Int):=u8_and_nat y.toNat 8 y.toNat_lt (by omega)
              obtain⟨z,hzz⟩ : ∃ z:Nat,y.toNat &&& 8=z:=⟨_,rfl⟩
              rw[hzz] at hhas e3
              have HH:=hide hhas
              have e6:IntKind.u16.wrap ((X:Int)*256+(k:Int)*8+4)=((T.mk X (8*k+4)).toNat:Int):=by
               rw[T.mk_nat X (8*k+4) hx (by omega),IntKind.wrap_u16];omega
              clear hhas hzz
              by_cases hz0:z=0
              ·have hno:T.has bs (8*k+4)=false:=by
                have : ¬ T.has bs (8*k+4)=true:=fun h=>(HH.out.2 h) hz0
                simpa using this
               have e5:((z:Int) != 0)=false:=by simp[hz0]
               go_wp2
               go_quiet (fail)
               go_wp2
               go_roundw
               case rel=>exact⟨5,rfl,by omega,(by rw[show 8*k+5=(8*k+4)+1 by omega,T.typUp_no X bs _ hno];exact HO.out),below_drewN hB _⟩
               case measure=>simp[intOf]
              ·have hyes:T.has bs (8*k+4)=true:=HH.out.1 hz0
               have e5:((z:Int) != 0)=true:=by simp[hz0]
               have hml:(m++T.typUp X bs (8*k+4)).length<=1000256:=by rw[List.length_append];have:=T.typUp_len X bs (8*k+4);omega
               go_wp2
               go_quiet (fail)
               have HO2:Hid (OwnH (wr.drewN nq) w.heap.size u4 (m++T.typUp X bs (8*k+4))):=HO.out
               have hB2:=below_drewN hB nq
               have hz2:=hB2.size
               clear hB HO cy hz
               generalize wr.drewN nq=w2 at HO2 hB2 hz2 ⊢
               clear nq
               go_wp2_with (at_builtin;refine wpList_append_H rfl (.tmp 81) (.tmp 90) rfl w.heap.size _ (m++T.typUp X bs (8*k+4)) rfl (by exact HO2.out.alloc _) _ _ _ [T.mk X (8*k+4)] rfl rfl (SlH.oneI _ _ _ _ (by first | rfl | (rw[T.mk_nat X _ hx (by omega)];omega))) (by simp) (by simp at hml ⊢; omega) (by simp;omega) ?_;intro v4 w4 hO4 hG4;have hB4:=grown_belowH (HO2.out.alloc _) hG4 (hB2.alloc hz2 _) (by simp;omega);clear hG4)
               go_roundw
               case rel=>exact⟨5,rfl,by omega,(by rw[show 8*k+5=(8*k+4)+1 by omega,T.typUp_yes X bs _ hyes, <- List.append_assoc];exact hO4),hB4⟩
               case measure=>simp[intOf]
             ·subst hr
              have hhas:=T.and_has bs (8*k+5)
              rw[show (8*k+5) / 8=k by omega,show 7 - (8*k+5) % 8=2 by omega,HY.out,show (2 ^ 2:Nat)=4 from rfl] at hhas
              have e3:bits .and .u8 (y.toNat:Int) 4=((y.toNat &&& 4:Nat):Int):=u8_and_nat y.toNat 4 y.toNat_lt (by omega)
              obtain⟨z,hzz⟩ : ∃ z:Nat,y.toNat &&& 4=z:=⟨_,rfl⟩
              rw[hzz] at hhas e3
              have HH:=hide hhas
              have e6:IntKind.u16.wrap ((X:Int)*256+(k:Int)*8+5)=((T.mk X (8*k+5)).toNat:Int):=by
               rw[T.mk_nat X (8*k+5) hx (by omega),IntKind.wrap_u16];omega
              clear hhas hzz
              by_cases hz0:z=0
              ·have hno:T.has bs (8*k+5)=false:=by
                have : ¬ T.has bs (8*k+5)=true:=fun h=>(HH.out.2 h) hz0
                simpa using this
               have e5:((z:Int) != 0)=false:=by simp[hz0]
               go_wp2
               go_quiet (fail)
               go_wp2
               go_roundw
               case rel=>exact⟨6,rfl,by omega,(by rw[show 8*k+6=(8*k+5)+1 by omega,T.typUp_no X bs _ hno];exact HO.out),below_drewN hB _⟩
               case measure=>simp[intOf]
              ·have hyes:T.has bs (8*k+5)=true:=HH.out.1 hz0
               have e5:((z:Int) != 0)=true:=by simp[hz0]
               have hml:(m++T.typUp X bs (8*k+5)).length<=1000256:=by rw[List.length_append];have:=T.typUp_len X bs (8*k+5);omega
               go_wp2
               go_quiet (fail)
               have HO2:Hid (OwnH (wr.drewN nq) w.heap.size u4 (m++T.typUp X bs (8*k+5))):=HO.out
               have hB2:=below_drewN hB nq
               have hz2:=hB2.size
               clear hB HO cy hz
               generalize wr.drewN nq=w2 at HO2 hB2 hz2 ⊢
               clear nq
               go_wp2_with (at_builtin;refine wpList_append_H rfl (.tmp 81) (.tmp 90) rfl w.heap.size _ (m++T.typUp X bs (8*k+5)) rfl (by exact HO2.out.alloc _) _ _ _ [T.mk X (8*k+5)] rfl rfl (SlH.oneI _ _ _ _ (by first | rfl | (rw[T.mk_nat X _ hx (by omega)];omega))) (by simp) (by simp at hml ⊢; omega) (by simp;omega) ?_;intro v4 w4 hO4 hG4;have hB4:=grown_belowH (HO2.out.alloc _) hG4 (hB2.alloc hz2 _) (by simp;omega);clear hG4)
               go_roundw
               case rel=>exact⟨6,rfl,by omega,(by rw[show 8*k+6=(8*k+5)+1 by omega,T.typUp_yes X bs _ hyes, <- List.append_assoc];exact hO4),hB4⟩
               case measure=>simp[intOf]
             ·subst hr
              have hhas:=T.and_has bs (8*k+6)
              rw[show (8*k+6) / 8=k by omega,show 7 - (8*k+6) % 8=1 by omega,HY.out,show (2 ^ 1:Nat)=2 from rfl] at hhas
              have e3:bits .and .u8 (y.toNat:Int) 2=((y.toNat &&& 2:Nat):Int):=u8_and_nat y.toNat 2 y.toNat_lt (by omega)
              obtain⟨z,hzz⟩ : ∃ z:Nat,y.toNat &&& 2=z:=⟨_,rfl⟩
              rw[hzz] at hhas e3
              have HH:=hide hhas
              have e6:IntKind.u16.wrap ((X:Int)*256+(k:Int)*8+6)=((T.mk X (8*k+6)).toNat:Int):=by
               rw[T.mk_nat X (8*k+6) hx (by omega),IntKind.wrap_u16];omega
              clear hhas hzz
              by_cases hz0:z=0
              ·have hno:T.has bs (8*k+6)=false:=by
                have : ¬ T.has bs (8*k+6)=true:=fun h=>(HH.out.2 h) hz0
                simpa using this
               have e5:((z:Int) != 0)=false:=by simp[hz0]
               go_wp2
               go_quiet (fail)
               go_wp2
               go_roundw
               case rel=>exact⟨7,rfl,by omega,(by rw[show 8*k+7=(8*k+6)+1 by omega,T.typUp_no X bs _ hno];exact HO.out),below_drewN hB _⟩
               case measure=>simp[intOf]
              ·have hyes:T.has bs (8*k+6)=true:=HH.out.1 hz0
               have e5:((z:Int) != 0)=true:=by simp[hz0]
               have hml:(m++T.typUp X bs (8*k+6)).length<=1000256:=by rw[List.length_append];have:=T.typUp_len X bs (8*k+6);omega
               go_wp2
               go_quiet (fail)
               have HO2:Hid (OwnH (wr.drewN nq) w.heap.size u4 (m++T.typUp X bs (8*k+6))):=HO.out
               have hB2:=below_drewN hB nq
               have hz2:=hB2.size
               clear hB HO cy hz
               generalize wr.drewN nq=w2 at HO2 hB2 hz2 ⊢
               clear nq
               go_wp2_with (at_builtin;refine wpList_append_H rfl (.tmp 81) (.tmp 90) rfl w.heap.size _ (m++T.typUp X bs (8*k+6)) rfl (by exact HO2.out.alloc _) _ _ _ [T.mk X (8*k+6)] rfl rfl (SlH.oneI _ _ _ _ (by first | rfl | (rw[T.mk_nat X _ hx (by omega)];omega))) (by simp) (by simp at hml ⊢; omega) (by simp;omega) ?_;intro v4 w4 hO4 hG4;have hB4:=grown_belowH (HO2.out.alloc _) hG4 (hB2.alloc hz2 _) (by simp;omega);clear hG4)
               go_roundw
               case rel=>exact⟨7,rfl,by omega,(by rw[show 8*k+7=(8*k+6)+1 by omega,T.typUp_yes X bs _ hyes, <- List.append_assoc];exact hO4),hB4⟩
               case measure=>simp[intOf]
             ·subst hr
              have hhas:=T.and_has bs (8*k+7)
              rw[show (8*k+7) / 8=k by omega,show 7 - (8*k+7) % 8=0 by omega,HY.out,show (2 ^ 0:Nat)=1 from rfl] at hhas
              have e3:bits .and .u8 (y.toNat:Int) 1=((y.toNat &&& 1:Nat):Int):=u8_and_nat y.toNat 1 y.toNat_lt (by omega)
              obtain⟨z,hzz⟩ : ∃ z:Nat,y.toNat &&& 1=z:=⟨_,rfl⟩
              rw[hzz] at hhas e3
              have HH:=hide hhas
              have e6:IntKind.u16.wrap ((X:Int)*256+(k:Int)*8+7)=((T.mk X (8*k+7)).toNat:Int):=by
               rw[T.mk_nat X (8*k+7) hx (by omega),IntKind.wrap_u16];omega
              clear hhas hzz
              by_cases hz0:z=0
              ·have hno:T.has bs (8*k+7)=false:=by
                have : ¬ T.has bs (8*k+7)=true:=fun h=>(HH.out.2 h) hz0
                simpa using this
               have e5:((z:Int) != 0)=false:=by simp[hz0]
               go_wp2
               go_quiet (fail)
               go_wp2
               go_roundw
               case rel=>exact⟨8,rfl,by omega,(by rw[show 8*k+8=(8*k+7)+1 by omega,T.typUp_no X bs _ hno];exact HO.out),below_drewN hB _⟩
               case measure=>simp[intOf]
              ·have hyes:T.has bs (8*k+7)=true:=HH.out.1 hz0
               have e5:((z:Int) != 0)=true:=by simp[hz0]
               have hml:(m++T.typUp X bs (8*k+7)).length<=1000256:=by rw[List.length_append];have:=T.typUp_len X bs (8*k+7);omega
               go_wp2
               go_quiet (fail)
               have HO2:Hid (OwnH (wr.drewN nq) w.heap.size u4 (m++T.typUp X bs (8*k+7))):=HO.out
               have hB2:=below_drewN hB nq
               have hz2:=hB2.size
               clear hB HO cy hz
               generalize wr.drewN nq=w2 at HO2 hB2 hz2 ⊢
               clear nq
               go_wp2_with (at_builtin;refine wpList_append_H rfl (.tmp 81) (.tmp 90) rfl w.heap.size _ (m++T.typUp X bs (8*k+7)) rfl (by exact HO2.out.alloc _) _ _ _ [T.mk X (8*k+7)] rfl rfl (SlH.oneI _ _ _ _ (by first | rfl | (rw[T.mk_nat X _ hx (by omega)];omega))) (by simp) (by simp at hml ⊢; omega) (by simp;omega) ?_;intro v4 w4 hO4 hG4;have hB4:=grown_belowH (HO2.out.alloc _) hG4 (hB2.alloc hz2 _) (by simp;omega);clear hG4)
               go_roundw
               case rel=>exact⟨8,rfl,by omega,(by rw[show 8*k+8=(8*k+7)+1 by omega,T.typUp_yes X bs _ hyes, <- List.append_assoc];exact hO4),hB4⟩
               case measure=>simp[intOf]
            ·obtain rfl:j=8:=by omega
             go_wp2
             go_roundw
             case rel=>exact⟨k+1,by go_num,by omega,(by rw[show 8*(k+1)=8*k+8 by omega];exact hO),hB⟩
             case measure=>simp[intOf];omega
          ·obtain rfl:k=M:=by omega
           have ek : ¬ (k:Int)<(k:Int):=by omega
           have htl:=T.typUp_len X bs (8*k)
           rw[<- HBL.out,T.typUp_all] at hO
           rw[<- HBL.out,T.typUp_all] at htl
           have hop:=HOP.out HGB.out
           have HO:=hide hO
           have HTL:=hide htl
           have HOQ:=hide hop
           clear hO htl hop
           go_wp2
           go_roundw
           case rel =>
            refine⟨i+(2+k),X+1,m++T.typ X bs,by first | rfl | (congr 1;done) | (congr 1;omega),by omega,by first | rfl | (congr 1;done) | (congr 1;omega),by omega,HO.out,hB,?_,?_⟩
            ·rw[List.length_append]
             have h1:=HTL.out
             have h2:=HBL.out
             omega
            ·rw[HE.out,HOQ.out,HD2.out]
             cases T.opn (X+1) (r.drop k) <;> simp
           case measure=>simp[intOf];omega
  ·obtain rfl:i=len:=by omega
   go_wp2
   go_ret2
   refine⟨hB,Or.inl ⟨m,_,?_,rfl,HO.out⟩⟩
   rw[HE.out,List.drop_eq_nil_of_le (by rw[hl.out];exact Nat.le_refl _),T.opn_nil];simp
end Go.Proofs.YtmbcegljmhcdeaaGreat
namespace Go.Proofs.YtmbcegljmhcdeaaGreat
open Go.RowKit
set_option maxRecDepth 5000
end Go.Proofs.YtmbcegljmhcdeaaGreat
