/- What nfaMatches_proved stands on, part 8 of 10. -/
import Derived.Test.YtakhljnkmbpmpaaDoorCm7
namespace Go.Proofs.YtakhljnkmbpmpaaDoor
open Go.RowKit Abs
abbrev TRun:Nat:=69
def stepN(N:Nt)(st:Bool×Nat)(c:Nat):Bool×Nat:=(true,(if st.1=true then N.behind st.2 else N.first)&&&N.ta.getD c 0)
def doneN(N:Nt)(st:Bool×Nat):Bool:=if st.1=true then decide (st.2&&&N.last≠0) else N.empty
def deadN(N:Nt)(st:Bool×Nat):Bool:=if st.1=true then decide (st.2=0) else !N.empty&&decide (N.first=0)
noncomputable def runC(nb:Nat)(st:Bool×Nat):List AV:=[.ptr nb 0,.bool st.1,.int .u64 (st.2:Int)]
def runN(N:Nt)(st:Bool×Nat)(s:Bytes):Bool×Nat:=s.foldl (fun st c=>stepN N st c.toNat) st
def matchN(N:Nt)(s:Bytes):Bool:=doneN N (runN N (false,0) s)
theorem behF_zero(fo:List Nat):∀(f acc:Nat),behF fo f 0 acc=acc
 |0,_=>rfl
 |_+1,_=>rfl
theorem beh_zero(N:Nt):N.behind 0=0:=behF_zero _ _ _
theorem step_zero(N:Nt)(c:Nat):stepN N (true,0) c=(true,0):=by
 unfold stepN
 rw[if_pos rfl,beh_zero,Nat.zero_and]
theorem run_zero(N:Nt):∀s:Bytes,runN N (true,0) s=(true,0)
 |[]=>rfl
 |c::s=>by
  show runN N (stepN N (true,0) c.toNat) s=_
  rw[step_zero]
  exact run_zero N s
theorem step_small{N:Nt}(k:NtOk N)(st:Bool×Nat)(c:Nat):(stepN N st c).2 <18446744073709551616:=by
 show (if st.1=true then N.behind st.2 else N.first)&&&_<_
 refine and_small ?_
 split
 ·exact N.behind_small k _
 ·exact k.f
section
variable {N:Nt}{n d nb rb:Nat}{h:AHeap}{Q:ARes→AHeap→Prop}{st:Bool×Nat}
set_option maxRecDepth 100000 in
theorem eqRun(b o:Nat)(h:AHeap):opBin Tryd.prog h .eql 44 true (some (.ptr b o)) (some AV.nilp)=some (.val (.bool false),h):=by kernel_rfl
set_option maxRecDepth 100000 in
theorem eqNet(b o:Nat)(h:AHeap):opBin Tryd.prog h .eql 25 true (some (.ptr b o)) (some AV.nilp)=some (.val (.bool false),h):=by kernel_rfl
set_option maxRecDepth 100000 in
theorem bldRun(b o:Nat):bldS Tryd.prog TRun [(0,.ptr b o)]=some [.ptr b o,.bool false,.int .u64 0]:=by kernel_rfl
theorem none_w(kr:RowH h rb TRun (runC nb st)):world n (d+1) 33 [.ptr rb 0] h=some (.ret (.bool false),h):=by
 apply Wp.eq
 rw[w_nfa_Run_none]
 unfold nfa_Run_none
 have c1:ldCell h (.ptr rb (0+0))=some (.ptr nb 0):=RowH.cell' kr rfl
 repeat(with_reducible first|refine Wp.join1 (fun _ _=>?_)|(apply Wp.obind;first|exact c1|exact avBool_bool _|exact nilC_ptr _ _|exact fldP_ptr _ _ _)|(refine Wp.iff ?_ ?_;rfl)|(apply Wp.outK;first|exact eqRun _ _ _|exact eqNet _ _ _)|refine Wp.go1 (by assumption) ?_)
 exact Wp.ret ⟨rfl,rfl⟩
theorem done_w(hN:NtOk N)(hs:st.2<18446744073709551616)(kr:RowH h rb TRun (runC nb st))(kn:RowH h nb TNet (netC N)):world n (d+2) 18 [.ptr rb 0] h=some (.ret (.bool (doneN N st)),h):=by
 apply Wp.eq
 rw[w_nfa_Run_Done]
 unfold nfa_Run_Done
 have e0:=none_w (n:=n) (d:=d) kr
 have c1:ldCell h (.ptr rb (0+0))=some (.ptr nb 0):=RowH.cell' kr rfl
 have c2:ldCell h (.ptr rb (0+1))=some (.bool st.1):=RowH.cell' kr rfl
 have c3:ldCell h (.ptr rb (0+2))=some (.int .u64 (st.2:Int)):=RowH.cell' kr rfl
 have c4:ldCell h (.ptr nb (0+0))=some (.bool N.empty):=RowH.cell' kn rfl
 have c5:ldCell h (.ptr nb (0+2))=some (.int .u64 (N.last:Int)):=RowH.cell' kn rfl
 have e1:=andI_nat hs hN.l
 unfold doneN
 repeat(with_reducible first|refine Wp.lett ?_|(apply Wp.obind;first|exact c2|exact avBool_bool _|exact nilC_ptr _ _|exact fldP_ptr _ _ _)|(refine Wp.iff ?_ ?_;rfl)|(apply Wp.callN;exact e0))
 cases hb:st.1 with
 |false=>
  repeat(with_reducible first|(apply Wp.obind;first|exact c1|exact c4|exact avBool_bool _|exact nilC_ptr _ _|exact fldP_ptr _ _ _)|(refine Wp.ift ?_ ?_;exact Bool.not_false))
  exact Wp.ret ⟨rfl,rfl⟩
 | true =>
  repeat(with_reducible first|refine Wp.lett ?_|(apply Wp.obind;first|exact c1|exact c3|exact c5|exact avInt_int _ _|exact nilC_ptr _ _|exact fldP_ptr _ _ _)|(refine Wp.iff ?_ ?_;exact Bool.not_true))
  rw[e1]
  refine Wp.ret ⟨?_,rfl⟩
  by_cases hz:st.2&&&N.last=0
  ·rw [hz]
   rfl
  ·rw[if_pos rfl,decide_eq_true hz,show (((st.2&&&N.last:Nat):Int) != 0)=true from bne_t (by omega)]
theorem dead_w(kr:RowH h rb TRun (runC nb st))(kn:RowH h nb TNet (netC N)):world n (d+2) 19 [.ptr rb 0] h=some (.ret (.bool (deadN N st)),h):=by
 apply Wp.eq
 rw[w_nfa_Run_Dead]
 unfold nfa_Run_Dead
 have e0:=none_w (n:=n) (d:=d) kr
 have c1:ldCell h (.ptr rb (0+0))=some (.ptr nb 0):=RowH.cell' kr rfl
 have c2:ldCell h (.ptr rb (0+1))=some (.bool st.1):=RowH.cell' kr rfl
 have c3:ldCell h (.ptr rb (0+2))=some (.int .u64 (st.2:Int)):=RowH.cell' kr rfl
 have c4:ldCell h (.ptr nb (0+0))=some (.bool N.empty):=RowH.cell' kn rfl
 have c5:ldCell h (.ptr nb (0+1))=some (.int .u64 (N.first:Int)):=RowH.cell' kn rfl
 have hz:∀x:Nat,(((x:Nat):Int) == 0)=decide (x=0):=fun x=>by
  by_cases h0:x=0
  ·rw [h0]
   rfl
  ·rw [decide_eq_false h0]
   exact beq_f (by omega)
 unfold deadN
 repeat(with_reducible first|refine Wp.lett ?_|(apply Wp.obind;first|exact c2|exact avBool_bool _|exact nilC_ptr _ _|exact fldP_ptr _ _ _)|(refine Wp.iff ?_ ?_;rfl)|(apply Wp.callN;exact e0))
 cases hb:st.1 with
 | false =>
  cases he:N.empty with
  |true=>
   rw[he] at c4
   repeat(with_reducible first|refine Wp.join1 (fun _ _=>?_)|refine Wp.lett ?_|(apply Wp.obind;first|exact c1|exact c4|exact avBool_bool _|exact nilC_ptr _ _|exact fldP_ptr _ _ _)|(refine Wp.ift ?_ ?_;exact Bool.not_false)|(refine Wp.iff ?_ ?_;exact Bool.not_true)|refine Wp.go1 (by assumption) ?_)
   exact Wp.ret ⟨rfl,rfl⟩
  |false=>
   rw[he] at c4
   repeat(with_reducible first|refine Wp.join1 (fun _ _=>?_)|refine Wp.lett ?_|(apply Wp.obind;first|exact c1|exact c4|exact c5|exact avInt_int _ _|exact avBool_bool _|exact nilC_ptr _ _|exact fldP_ptr _ _ _)|(refine Wp.ift ?_ ?_;exact Bool.not_false)|refine Wp.go1 (by assumption) ?_)
   rw[hz]
   exact Wp.ret ⟨rfl,rfl⟩
 |true=>
  repeat(with_reducible first|refine Wp.lett ?_|(apply Wp.obind;first|exact c3|exact avInt_int _ _|exact nilC_ptr _ _|exact fldP_ptr _ _ _)|(refine Wp.iff ?_ ?_;exact Bool.not_true))
  rw[hz]
  exact Wp.ret ⟨rfl,rfl⟩
theorem step_r(hT:HasTz h)(hN:NtOk N)(hs:st.2<18446744073709551616)(hn:18446744073709551616<n)(hne:rb≠nb){c:Nat}(hc:c<256)(kr:RowH h rb TRun (runC nb st))(kn:RowH h nb TNet (netC N))(hnb:nb<h.next):∃h',world n (d+3) 21 [.ptr rb 0,.int .u8 (c:Int)] h=some (.ret (.tup []),h')∧RowH h' rb TRun (runC nb (stepN N st c))∧Tch [rb] h h':=by
 apply Wp.ex
 rw[w_nfa_Run_Step]
 unfold nfa_Run_Step
 have e0:=none_w (n:=n) (d:=d+1) kr
 have c1:ldCell h (.ptr rb (0+0))=some (.ptr nb 0):=RowH.cell' kr rfl
 have c2:ldCell h (.ptr rb (0+1))=some (.bool st.1):=RowH.cell' kr rfl
 have c3:ldCell h (.ptr rb (0+2))=some (.int .u64 (st.2:Int)):=RowH.cell' kr rfl
 have c5:ldCell h (.ptr nb (0+1))=some (.int .u64 (N.first:Int)):=RowH.cell' kn rfl
 have e1:=beh_w (n:=n) (d:=d) hT hN kn hs hn
 have e3:=idxA_ptr (b:=nb) (o:=0+67) hc
 have fin:∀(m:Nat),m<18446744073709551616→(stepN N st c).2=m&&&N.ta.getD c 0→Wp (obind (stRow h 1 [.bool true] (.ptr rb (0+1))) fun h_25=>
   obind (nilC (.ptr rb 0)) fun t33=>obind (fldP 0 t33) fun t34=>obind (ldCell h_25 t34) fun v35=>obind (nilC v35) fun t37=>obind (fldP 67 t37) fun t38=>
   obind (idxA 256 1 t38 (c:Int)) fun t39=>obind (ldCell h_25 t39) fun v40=>obind (avInt .u64 v40) fun t40=>lett (andI .u64 (m:Int) t40) fun (t41:Int)=>
   obind (nilC (.ptr rb 0)) fun t42=>obind (fldP 2 t42) fun t43=>obind (stRow h_25 1 [.int .u64 t41] t43) fun h_38=>some (.ret (.tup []),h_38))
   fun r h'=>r=.ret (.tup [])∧RowH h' rb TRun (runC nb (stepN N st c))∧Tch [rb] h h':=by
  intro m hm he
  refine Wp.st1 kr (by show 1<3;decide) rfl fun h1 k1 t1 _=>?_
  have kn1:=kn.tch t1 hnb (by simpa using fun e=>hne e.symm)
  have d1:ldCell h1 (.ptr rb (0+0))=some (.ptr nb 0):=RowH.cell' k1 rfl
  have d2:ldCell h1 (.ptr nb (0+67+c))=some (.int .u64 (N.ta.getD c 0:Int)):=RowH.cell' kn1 (by rw[Nat.zero_add,net_ta hN hc])
  repeat(with_reducible first|refine Wp.lett ?_|(apply Wp.obind;first|exact d1|exact d2|exact e3|exact avInt_int _ _|exact nilC_ptr _ _|exact fldP_ptr _ _ _))
  rw[andI_nat hm (getD_small hN.ts c), ←he]
  refine Wp.st1 k1 (by show 2<3;decide) rfl fun h2 k2 t2 _=>?_
  exact Wp.ret ⟨rfl,k2,t1.trans t2⟩
 repeat(with_reducible first|refine Wp.join1 (fun _ _=>?_)|(apply Wp.obind;first|exact c1|exact c2|exact c5|exact avInt_int _ _|exact avBool_bool _|exact nilC_ptr _ _|exact fldP_ptr _ _ _)|(refine Wp.iff ?_ ?_;rfl)|(apply Wp.callN;exact e0))
 cases hb:st.1 with
 |true=>
  repeat(with_reducible first|(apply Wp.obind;first|exact c1|exact c3|exact avInt_int _ _|exact nilC_ptr _ _|exact fldP_ptr _ _ _)|(refine Wp.ift ?_ ?_;rfl)|(apply Wp.callN;exact e1)|refine Wp.go1 (by assumption) ?_)
  exact fin (N.behind st.2) (N.behind_small hN _) (by unfold stepN;rw[if_pos hb])
 |false=>
  repeat(with_reducible first|(apply Wp.obind;first|exact nilC_ptr _ _|exact fldP_ptr _ _ _)|(refine Wp.iff ?_ ?_;rfl)|refine Wp.go1 (by assumption) ?_)
  exact fin N.first hN.f (by unfold stepN;rw[if_neg (by rw[hb];decide)])
end
section
variable {N:Nt}{n d nb rb:Nat}{h h0:AHeap}{Q:ARes→AHeap→Prop}{st:Bool×Nat}{S:List Nat}{rs:List RowT}
theorem begin_m(M:Abs.Mem S h0 h rs):∃h',world n (d+1) 17 [.ptr nb 0] h=some (.ret (.ptr h.next 0),h')∧Abs.Mem S h0 h' ((h.next,TRun,runC nb (false,0))::rs):=by
 apply Wp.ex
 rw[w_nfa_Net_Begin]
 unfold nfa_Net_Begin
 have Mx:=M
 repeat(first|(with_reducible apply Wp.obind;exact avBool_bool _)|((with_reducible apply Wp.mbox Mx);(rfl);clear Mx;intro _ Mx)|(with_reducible first|(apply Wp.obind;exact bldRun _ _)|(refine Wp.iff ?_ ?_;rfl)|(apply Wp.outK;exact eqNet _ _ _)))
 exact Wp.ret ⟨rfl,Mx⟩
theorem dead_false{st:Bool×Nat}(hb:st.1=true)(hd:deadN N st=true)(s:Bytes):doneN N (runN N st s)=false:=by
 obtain⟨b,m⟩:=st
 have:b=true:=hb
 subst this
 have:m=0:=of_decide_eq_true hd
 subst this
 rw[run_zero]
 show decide (0&&&N.last≠0)=false
 rw[Nat.zero_and]
 rfl
theorem run_cons{s:Bytes}{i:Nat}(hi:i<s.length)(st:Bool×Nat):runN N st (s.drop i)=runN N (stepN N st (s[i]).toNat) (s.drop (i+1)):=by
 rw[List.drop_eq_getElem_cons hi]
 rfl
theorem byte_lt{s:Bytes}{i:Nat}(hi:i<s.length):(s[i]).toNat <256:=(s[i]).toNat_lt
theorem match_loop{s:Bytes}{k17:AHeap→R}{h4:AHeap}(hT:HasTz h0)(hN:NtOk N)(hn:18446744073709551616<n)(hl:s.length<1000000000)(kn:RowH h0 nb TNet (netC N))(hnb:nb<h0.next)(hk:∀(st:Bool×Nat) (H:AHeap),st.2<18446744073709551616→Abs.Mem [] h0 H [(h4.next,TRun,runC nb st)]→doneN N st=matchN N s→Wp (k17 H) Q)(hq:∀H,Tch [] h0 H→matchN N s=false→Q (.ret (.bool false)) H):
  ∀(m f i:Nat) (st:Bool×Nat) (H:AHeap),m<f→i+m=s.length→st.2<18446744073709551616→doneN N (runN N st (s.drop i))=matchN N s→Abs.Mem [] h0 H [(h4.next,TRun,runC nb st)]→Wp (nfa_Net_Match_L0 (world n (d+3)) s h4 k17 f (i:Int) H) Q
 |_,0,_,_,_,hf,_,_,_,_=>by omega
 |0,f+1,i,st,H,hf,hm,hs,hr,M=>by
  have ll:=lenS_nat s
  rw[nfa_Net_Match_L0_s]
  unfold nfa_Net_Match_L0b
  repeat(first|(with_reducible refine Wp.lett ?_)|((with_reducible refine Wp.iff ?_ ?_;apply decide_eq_false);omega))
  refine hk st H hs M ?_
  rw[List.drop_of_length_le (by omega)] at hr
  exact hr
 | m + 1, f + 1, i, st, H, hf, hm, hs, hr, M => by
  have ll:=lenS_nat s
  have hi:i<s.length:=by omega
  rw[nfa_Net_Match_L0_s]
  unfold nfa_Net_Match_L0b
  have hx:=idxS_nat hi
  have kn1:=kn.tch M.tch hnb (by simp)
  have hn1:=Nat.lt_of_lt_of_le hnb M.tch.1
  have hne:h4.next≠nb:=by
   have:=M.at0.2.2.resolve_left (by simp)
   omega
  obtain⟨h1,e1,k1,t1⟩:=step_r (n:=n) (d:=d) (hT.tch M.tch (by simp)) hN hs hn hne (byte_lt hi) M.at0.1 kn1 hn1
  have M1:=Mem.upd (xs:=[]) M t1 k1
  have kn2:=kn1.tch t1 hn1 (by simpa using fun e=>hne e.symm)
  have e2:=dead_w (n:=n) (d:=d+1) k1 kn2
  have el:(i:Int)+1=((i+1:Nat):Int):=by omega
  rw[run_cons hi] at hr
  ((with_reducible refine Wp.lett ?_))
  refine Wp.ift (decide_eq_true (by omega)) ?_
  refine Wp.obind hx ?_
  rw[newP_eq]
  refine Wp.callN e1 ?_
  refine Wp.callN e2 ?_
  refine Wp.obind (avBool_bool _) ?_
  cases hd:deadN N (stepN N st (s[i]).toNat) with
  |true=>
   (((with_reducible refine Wp.ift ?_ ?_);(with_reducible rfl)))
   refine Wp.ret (hq _ M1.tch ?_)
   rw[←hr]
   exact dead_false rfl hd _
  |false=>
   repeat(first|((with_reducible refine Wp.lettw ?_ ?_ ?_);omega;omega)|(with_reducible refine Wp.iff ?_ ?_;rfl))
   rw[el]
   exact match_loop hT hN hn hl kn hnb hk hq m f (i+1) _ h1 (by omega) (by omega) (step_small hN _ _) hr M1
theorem match_r{s:Bytes}(hT:HasTz h)(hN:NtOk N)(hn:18446744073709551616<n)(hl:s.length<1000000000)(kn:RowH h nb TNet (netC N))(hnb:nb<h.next):∃h',world n (d+4) 14 [.ptr nb 0,strA s] h=some (.ret (.bool (matchN N s)),h')∧Tch [] h h':=by
 apply Wp.ex
 rw[w_nfa_Net_Match]
 unfold nfa_Net_Match
 have Mx:=Mem.nil [] h
 repeat(first|(with_reducible apply Wp.obind;exact avBool_bool _)|((with_reducible apply Wp.sa0 Mx);rfl;rfl;(rfl);clear Mx;intro _ Mx)|((with_reducible apply Wp.mnew Mx);clear Mx;intro _ Mx)|(with_reducible first|refine Wp.join0 (fun _ _=>?_)|(apply Wp.obind;exact bldRun _ _)|(refine Wp.iff ?_ ?_;rfl)|(apply Wp.outK;exact eqNet _ _ _))|rw[newP_eq])
 rename_i k17 ek17
 refine match_loop (h0:=h) hT hN hn hl kn hnb (fun st H hs M hd=>?_) (fun H t e=>⟨by rw[e],t⟩) s.length n 0 (false,0) _ (by omega) (by omega) (show 0<_ by decide) (by rw[List.drop_zero];rfl) Mx
 rw[ek17]
 have e2:=done_w (n:=n) (d:=d+1) hN hs M.at0.1 (kn.tch M.tch hnb (by simp))
 refine Wp.callN e2 ?_
 (((with_reducible apply Wp.obind);(with_reducible exact avBool_bool _)))
 exact Wp.ret ⟨by rw[hd],M.tch⟩
set_option maxRecDepth 100000 in
theorem nilNet(h:AHeap):opBin Tryd.prog h .eql 25 true (some AV.nilp) (some AV.nilp)=some (.val (.bool true),h):=by kernel_rfl
section
variable {u:Bytes}
theorem tree_long{u:Bytes}(l:64<u.length){kind:Int}(hk:kind=1∨kind=2∨kind=3){n D:Nat}{h:AHeap}:world n (D+1) 24 [.agg [.int .i64 kind,strA u]] h=some (.ret (.tup [.agg (nodeC 0 zeroW .nsl),.agg [.int .i64 3,.int .i64 64]]),h):=by
 rcases hk with rfl|rfl|rfl
 ·apply Wp.eq
  rw[w_pattern_Tree]
  refine Wp.gc ?_
  suffices hK:Wp (pattern_Tree (world n D) n [.int .i64 1,strA u] h) fun r h'=>r=.ret (.tup [.agg (nodeC 0 zeroW .nsl),.agg [.int .i64 3,.int .i64 64]])∧Tch [] h h' from hK.mono fun r h' ⟨e,t⟩=>⟨t.above,by rw[e];rfl,e,rfl⟩
  unfold pattern_Tree
  have ll:=lenS_nat u
  have Mx:=Mem.nil [] h
  repeat(first|(with_reducible apply Wp.obind;first|exact avInt_int _ _|exact avStr_str _|exact fldP_ptr _ _ _)|((with_reducible apply Wp.lr0 Mx);rfl)|((with_reducible apply Wp.sa0 Mx);rfl;rfl;(rfl);clear Mx;intro _ Mx)|((with_reducible apply Wp.lr1 Mx);rfl)|((with_reducible apply Wp.sa1 Mx);rfl;rfl;(rfl);clear Mx;intro _ Mx)|((with_reducible apply Wp.ld2 Mx);rfl)|((with_reducible apply Wp.mnew Mx);clear Mx;intro _ Mx)|((with_reducible apply Wp.mbox Mx);(rfl);clear Mx;intro _ Mx)|(with_reducible first|refine Wp.join1 (fun _ _=>?_)|refine Wp.lett ?_)|((with_reducible refine Wp.ift ?_ ?_);((with_reducible first|apply decide_eq_true|apply bne_t);omega))|((with_reducible refine Wp.iff ?_ ?_);first|(with_reducible rfl)|((with_reducible apply bne_f);omega))|(with_reducible refine Wp.go1 (by assumption) ?_)|rw[newP_eq])
  exact Wp.ret ⟨rfl,Mx.tch⟩
 ·apply Wp.eq
  rw[w_pattern_Tree]
  refine Wp.gc ?_
  suffices hK:Wp (pattern_Tree (world n D) n [.int .i64 2,strA u] h) fun r h'=>r=.ret (.tup [.agg (nodeC 0 zeroW .nsl),.agg [.int .i64 3,.int .i64 64]])∧Tch [] h h' from hK.mono fun r h' ⟨e,t⟩=>⟨t.above,by rw[e];rfl,e,rfl⟩
  unfold pattern_Tree
  have ll:=lenS_nat u
  have Mx:=Mem.nil [] h
  repeat(first|(with_reducible apply Wp.obind;first|exact avInt_int _ _|exact avStr_str _|exact fldP_ptr _ _ _)|((with_reducible apply Wp.lr0 Mx);rfl)|((with_reducible apply Wp.sa0 Mx);rfl;rfl;(rfl);clear Mx;intro _ Mx)|((with_reducible apply Wp.lr1 Mx);rfl)|((with_reducible apply Wp.sa1 Mx);rfl;rfl;(rfl);clear Mx;intro _ Mx)|((with_reducible apply Wp.ld2 Mx);rfl)|((with_reducible apply Wp.mnew Mx);clear Mx;intro _ Mx)|((with_reducible apply Wp.mbox Mx);(rfl);clear Mx;intro _ Mx)|(with_reducible first|refine Wp.join1 (fun _ _=>?_)|refine Wp.lett ?_)|((with_reducible refine Wp.ift ?_ ?_);((with_reducible first|apply decide_eq_true|apply bne_t);omega))|((with_reducible refine Wp.iff ?_ ?_);first|(with_reducible rfl)|((with_reducible apply bne_f);omega))|(with_reducible refine Wp.go1 (by assumption) ?_)|rw[newP_eq])
  exact Wp.ret ⟨rfl,Mx.tch⟩
 ·apply Wp.eq
  rw[w_pattern_Tree]
  refine Wp.gc ?_
  suffices hK:Wp (pattern_Tree (world n D) n [.int .i64 3,strA u] h) fun r h'=>r=.ret (.tup [.agg (nodeC 0 zeroW .nsl),.agg [.int .i64 3,.int .i64 64]])∧Tch [] h h' from hK.mono fun r h' ⟨e,t⟩=>⟨t.above,by rw[e];rfl,e,rfl⟩
  unfold pattern_Tree
  have ll:=lenS_nat u
  have Mx:=Mem.nil [] h
  repeat(first|(with_reducible apply Wp.obind;first|exact avInt_int _ _|exact avStr_str _|exact fldP_ptr _ _ _)|((with_reducible apply Wp.lr0 Mx);rfl)|((with_reducible apply Wp.sa0 Mx);rfl;rfl;(rfl);clear Mx;intro _ Mx)|((with_reducible apply Wp.lr1 Mx);rfl)|((with_reducible apply Wp.sa1 Mx);rfl;rfl;(rfl);clear Mx;intro _ Mx)|((with_reducible apply Wp.ld2 Mx);rfl)|((with_reducible apply Wp.mnew Mx);clear Mx;intro _ Mx)|((with_reducible apply Wp.mbox Mx);(rfl);clear Mx;intro _ Mx)|(with_reducible first|refine Wp.join1 (fun _ _=>?_)|refine Wp.lett ?_)|((with_reducible refine Wp.ift ?_ ?_);((with_reducible first|apply decide_eq_true|apply bne_t);omega))|((with_reducible refine Wp.iff ?_ ?_;apply bne_f);omega)|(with_reducible refine Wp.go1 (by assumption) ?_)|rw[newP_eq])
  exact Wp.ret ⟨rfl,Mx.tch⟩
end
end
theorem tz_pow_all:(List.range 64).all (fun k=>Nat.beq (tzT.getD (2 ^ k*285870213051353865%18446744073709551616/288230376151711744) 0) k)=true:=by kernel_rfl
theorem low_ex:∀(f m:Nat),m<f→m≠0→∃k q,m=2 ^ k*(2*q+1)
 |0,_,h,_=>by omega
 | f + 1, m, h, h0 => by
  rcases Nat.mod_two_eq_zero_or_one m with e|e
  ·obtain ⟨k, q, hk⟩ := low_ex f (m / 2) (by omega) (by omega)
   refine⟨k+1,q,?_⟩
   rw[Nat.pow_succ,Nat.mul_right_comm, ←hk]
   omega
  ·exact⟨0,m/2,by omega⟩
theorem and_compl{j q:Nat}(hq:q<2 ^ j):q&&&(2 ^ j - (q+1))=0:=by
 refine Nat.eq_of_testBit_eq fun i=>?_
 rw[Nat.testBit_and,Nat.testBit_two_pow_sub_succ hq,Nat.zero_testBit]
 cases q.testBit i<;>simp
theorem odd_and(a b:Nat)(h:a&&&b=0):(2*a+1)&&&(2*b+1)=1:=by
 refine Nat.eq_of_testBit_eq fun i=>?_
 rw[Nat.testBit_and]
 cases i with
 |zero=>simp[Nat.testBit_zero,Nat.add_mod]
 |succ i=>
  have e:=congrArg (fun x=>x.testBit i) h
  rw[Nat.testBit_and,Nat.zero_testBit] at e
  rw[Nat.testBit_succ,Nat.testBit_succ,Nat.testBit_succ,show (2*a+1)/2=a by omega,show (2*b+1)/2=b by omega,e]
  simp
theorem low_and{m k q:Nat}(hm:m=2 ^ k*(2*q+1))(hb:m<18446744073709551616):k<64∧m&&&(18446744073709551616 - m)%18446744073709551616=2 ^ k:=by
  have hp:0<2 ^ k:=Nat.pow_pos (by decide)
  have hk:k<64:=by
    apply Nat.lt_of_not_le
    intro hk
    have h1:=Nat.pow_le_pow_right (n:=2) (by decide) hk
    have h2:2 ^ k*1≤2 ^ k*(2*q+1):=Nat.mul_le_mul_left _ (by omega)
    omega
  refine⟨hk,?_⟩
  obtain⟨j,hj⟩:∃j,63=k+j:=⟨63 - k,by omega⟩
  have h64:18446744073709551616=2 ^ k*(2*2 ^ j):=by
    rw[←Nat.mul_assoc,Nat.mul_comm (2 ^ k) 2,Nat.mul_assoc, ←Nat.pow_add, ←hj]
  have hq:q<2 ^ j:=by
    have h3:2 ^ k*(2*q+1)<2 ^ k*(2*2 ^ j):=by rw[←hm, ←h64];exact hb
    have:=Nat.lt_of_mul_lt_mul_left h3
    omega
  have h5:(18446744073709551616 - m)%18446744073709551616=2 ^ k*(2*(2 ^ j - (q+1))+1):=by
    rw [Nat.mod_eq_of_lt (by have : 0 < m := by rw [hm]; exact Nat.mul_pos hp (by omega)
                             omega),h64,hm, ←Nat.mul_sub]
    congr 1
    omega
  rw[h5,hm]
  have h6:=odd_and _ _ (and_compl hq)
  rw[Nat.mul_comm,Nat.mul_comm (2 ^ k) (2*(2 ^ j - (q+1))+1), ←Nat.shiftLeft_eq, ←Nat.shiftLeft_eq, ←Nat.shiftLeft_and_distrib,h6,Nat.shiftLeft_eq,Nat.one_mul]
theorem tz_low{m k q:Nat}(hm:m=2 ^ k*(2*q+1))(hb:m<18446744073709551616):tzN m=k:=by
 obtain⟨hk,h⟩:=low_and hm hb
 have:=List.all_eq_true.1 tz_pow_all k (List.mem_range.2 hk)
 unfold tzN tzI
 rw[h]
 exact Nat.eq_of_beq_eq_true this
theorem low_bits{m k q:Nat}(hm:m=2 ^ k*(2*q+1)):m.testBit k=true∧∀i,(m&&&(m - 1)).testBit i=(m.testBit i&& !decide (i=k)):=by
 have hp:0<2 ^ k:=Nat.pow_pos (by decide)
 have d1:m/2 ^ k=2*q+1:=by rw[hm,Nat.mul_div_cancel_left _ hp]
 have d2:(m - 1)/2 ^ k=2*q:=by
  have:=Nat.mul_sub_div 0 (2 ^ k) (2*q+1) (Nat.mul_pos hp (by omega))
  rw[Nat.zero_add,Nat.zero_div, ←hm] at this
  rw[this]
  omega
 have hk:m.testBit k=true:=by
  rw[Nat.testBit_eq_decide_div_mod_eq,d1]
  exact decide_eq_true (by omega)
 refine⟨hk,fun i=>?_⟩
 rw[Nat.testBit_and]
 rcases Nat.lt_trichotomy i k with h|h|h
 ·have : m.testBit i = false := by
   obtain⟨j,hj⟩:∃j,k=i+(j+1):=⟨k - i - 1,by omega⟩
   rw[Nat.testBit_eq_decide_div_mod_eq,hm,hj,Nat.pow_add,Nat.mul_assoc,Nat.mul_div_cancel_left _ (Nat.pow_pos (by decide)),Nat.pow_succ,Nat.mul_comm (2 ^ j) 2,Nat.mul_assoc]
   exact decide_eq_false (by omega)
  rw[this,Bool.false_and,Bool.false_and]
 ·subst h
  have:(m - 1).testBit i=false:=by
   rw[Nat.testBit_eq_decide_div_mod_eq,d2]
   exact decide_eq_false (by omega)
  rw[this,decide_eq_true rfl]
  simp
 ·obtain ⟨j, hj⟩ : ∃ j, i = k + (j + 1) := ⟨i - k - 1, by omega⟩
  have e:∀x:Nat,x/2 ^ i=x/2 ^ k/2/2 ^ j:=fun x=>by rw[hj,Nat.pow_add,Nat.pow_succ,Nat.mul_comm (2 ^ j) 2, ←Nat.mul_assoc, ←Nat.div_div_eq_div_mul, ←Nat.div_div_eq_div_mul]
  have:(m - 1).testBit i=m.testBit i:=by
   rw[Nat.testBit_eq_decide_div_mod_eq,Nat.testBit_eq_decide_div_mod_eq,e,e,d1,d2,show (2*q+1)/2=2*q/2 by omega]
  rw[this,decide_eq_false (by omega)]
  simp
theorem behF_bit(fo:List Nat):∀(f m acc:Nat),m<f→m<18446744073709551616→∀r,(behF fo f m acc).testBit r=true↔acc.testBit r=true∨∃q,m.testBit q=true∧(fo.getD q 0).testBit r=true
 |0,_,_,h,_,_=>by omega
 | f + 1, m, acc, hf, hm, r => by
  rw[behF]
  by_cases h0:m=0
  ·rw [if_pos h0, h0]
   refine⟨.inl,fun h=>?_⟩
   rcases h with h|⟨q,h,_⟩
   ·exact h
   ·rw [Nat.zero_testBit] at h
    cases h
  ·rw [if_neg h0]
   obtain⟨k,q,hkq⟩:=low_ex (m+1) m (by omega) h0
   have hl:=low_lt h0
   obtain⟨b1,b2⟩:=low_bits hkq
   rw[behF_bit fo f _ _ (by omega) (by omega) r,tz_low hkq hm,Nat.testBit_or,Bool.or_eq_true]
   constructor
   ·rintro ((h | h) | ⟨p, h, h2⟩)
    ·exact .inl h
    ·exact .inr ⟨k,b1,h⟩
    ·rw [b2, Bool.and_eq_true] at h
     exact .inr ⟨p,h.1,h2⟩
   ·rintro (h | ⟨p, h, h2⟩)
    ·exact .inl (.inl h)
    ·by_cases hp : p = k
     ·subst hp
      exact .inl (.inr h2)
     ·refine .inr ⟨p, ?_, h2⟩
      rw[b2,h,decide_eq_false hp]
      rfl
theorem behind_bit{N:Nt}{m:Nat}(hm:m<18446744073709551616)(r:Nat):(N.behind m).testBit r=true↔∃q,m.testBit q=true∧(N.fo.getD q 0).testBit r=true:=by
 unfold Nt.behind
 rw[behF_bit N.fo _ m 0 (by omega) hm r,Nat.zero_testBit]
 simp
structure Frag where
 e:Bool
 F:Nat→Prop
 L:Nat→Prop
 E:Nat→Nat→Prop
 K:Nat→Nat→Prop
inductive Walk (a:Frag):Nat→List Nat→Nat→Prop
 |nil {q:Nat}:Walk a q [] q
 |cons {q r q' c:Nat} {s:List Nat} (e:a.E q r) (k:a.K r c) (w:Walk a r s q'):Walk a q (c::s) q'
def Fits1(a:Frag):List Nat→Prop
 |[]=>False
 |c::s=>∃q q',a.F q∧a.K q c∧a.L q'∧Walk a q s q'
structure Rec (a:Frag) (P:List Nat→Prop) (lo hi:Nat):Prop where
 e:a.e=true↔P []
 f:∀{c:Nat} {s:List Nat},Fits1 a (c::s)↔P (c::s)
 le:lo≤hi
 F:∀{q},a.F q→lo≤q∧q<hi
 L:∀{q},a.L q→lo≤q∧q<hi
 E:∀{q r},a.E q r→(lo≤q∧q<hi)∧lo≤r∧r<hi
 K:∀{q c},a.K q c→lo≤q∧q<hi
theorem Walk.mono{a b:Frag}(hE:∀{q r},a.E q r→b.E q r)(hK:∀{q c},a.K q c→b.K q c){q q':Nat}{s:List Nat}(w:Walk a q s q'):Walk b q s q':=by
 induction w with
 |nil=>exact .nil
 |cons e k _ ih=>exact .cons (hE e) (hK k) ih
theorem Walk.app{a:Frag}{q r q':Nat}{s t:List Nat}(w:Walk a q s r)(v:Walk a r t q'):Walk a q (s++t) q':=by
 induction w with
 |nil=>exact v
 |cons e k _ ih=>exact .cons e k (ih v)
def noF:Frag:=⟨true,fun _=>False,fun _=>False,fun _ _=>False,fun _ _=>False⟩
def badF:Frag:=⟨false,fun _=>False,fun _=>False,fun _ _=>False,fun _ _=>False⟩
def setF(w:List Nat)(u:Nat):Frag:=⟨false,fun q=>q=u,fun q=>q=u,fun _ _=>False,fun q c=>q=u∧inW w c=true⟩
def catF(a b:Frag):Frag:=⟨a.e&&b.e,fun q=>a.F q∨(a.e=true∧b.F q),fun q=>b.L q∨(b.e=true∧a.L q),fun q r=>a.E q r∨b.E q r∨(a.L q∧b.F r),fun q c=>a.K q c∨b.K q c⟩
def altF(a b:Frag):Frag:=⟨a.e||b.e,fun q=>a.F q∨b.F q,fun q=>a.L q∨b.L q,fun q r=>a.E q r∨b.E q r,fun q c=>a.K q c∨b.K q c⟩
def moreF(a:Frag)(e:Bool):Frag:=⟨e,a.F,a.L,fun q r=>a.E q r∨(a.L q∧a.F r),a.K⟩
def optF(a:Frag):Frag:=⟨true,a.F,a.L,a.E,a.K⟩
inductive Plus (P:List Nat→Prop):List Nat→Prop
 |one {s:List Nat} (h:P s):Plus P s
 |more {s t:List Nat} (h:P s) (m:Plus P t):Plus P (s++t)
def Cat(P Q:List Nat→Prop)(s:List Nat):Prop:=∃s1 s2,s=s1++s2∧P s1∧Q s2
section
variable {a b:Frag}{P Q:List Nat→Prop}{lo mid hi u:Nat}{w:List Nat}
theorem noF_rec(u:Nat):Rec noF (fun s=>s=[]) u u:=by
 refine⟨⟨fun _=>rfl,fun _=>rfl⟩,⟨fun h=>?_,fun h=>?_⟩,Nat.le_refl _,fun h=>False.elim h,fun h=>False.elim h,fun h=>False.elim h,fun h=>False.elim h⟩
 ·obtain ⟨_, _, h, _⟩ := h
  exact False.elim h
 ·cases h
theorem badF_rec(u:Nat):Rec badF (fun _=>False) u u:=by
 refine⟨⟨fun h=>?_,fun h=>False.elim h⟩,⟨fun h=>?_,fun h=>False.elim h⟩,Nat.le_refl _,fun h=>False.elim h,fun h=>False.elim h,fun h=>False.elim h,fun h=>False.elim h⟩
 ·cases h
 ·obtain ⟨_, _, h, _⟩ := h
  exact False.elim h
theorem setF_rec:Rec (setF w u) (fun s=>∃c,s=[c]∧inW w c=true) u (u+1):=by
 refine⟨⟨fun h=>?_,fun h=>?_⟩,⟨?_,?_⟩,by omega,fun h=>?_,fun h=>?_,fun h=>False.elim h,fun h=>?_⟩
 ·cases h
 ·obtain ⟨_, h, _⟩ := h
  cases h
 ·rintro ⟨q, q', _, k, _, v⟩
  cases v with
  |nil=>exact⟨_,rfl,k.2⟩
  |cons e _ _=>exact False.elim e
 ·rintro ⟨c, h, k⟩
  cases h
  exact⟨u,u,rfl,⟨rfl,k⟩,rfl,.nil⟩
 ·have : _ = u := h
  omega
 ·have : _ = u := h
  omega
 ·have := h.1
  omega
theorem opt_rec(h:Rec a P lo hi):Rec (optF a) (fun s=>s=[]∨P s) lo hi:=by
 refine⟨⟨fun _=>.inl rfl,fun _=>rfl⟩,⟨fun ⟨q,q',h1,h2,h3,v⟩=>.inr (h.f.1 ⟨q,q',h1,h2,h3,Walk.mono (a:=optF a) (b:=a) (fun h=>h) (fun h=>h) v⟩),fun hp=>?_⟩,h.le,h.F,h.L,h.E,h.K⟩
 rcases hp with hp|hp
 ·cases hp
 ·obtain ⟨q, q', h1, h2, h3, v⟩ := h.f.2 hp
  exact⟨q,q',h1,h2,h3,Walk.mono (a:=a) (b:=optF a) (fun h=>h) (fun h=>h) v⟩
theorem Walk.left(ha:Rec a P lo mid)(hb:Rec b Q mid hi){X:Nat→Nat→Prop}{f:Frag}(hE:∀{q r},f.E q r→a.E q r∨b.E q r∨X q r)(hX:∀{q r},X q r→r<mid→False)(hK:∀{q c},f.K q c→a.K q c∨b.K q c){q q':Nat}{s:List Nat}(v:Walk f q s q'):
  q<mid→q'<mid→Walk a q s q':=by
 have back:∀{q q':Nat} {s:List Nat},Walk f q s q'→mid≤q→(∀{q r},X q r→mid≤r)→mid≤q':=by
  intro q q' s v
  induction v with
  |nil=>exact fun h _=>h
  | cons e k _ ih =>
   intro hq hx
   rcases hE e with h|h|h
   ·have := (ha.E h).1
    omega
   ·exact ih (hb.E h).2.1 hx
   ·exact ih (hx h) hx
 have hx2:∀{q r},X q r→mid≤r:=fun h=>Nat.le_of_not_lt fun h2=>hX h h2
 induction v with
 |nil=>exact fun _ _=>.nil
 | cons e k w ih =>
  intro h1 h2
  rcases hE e with h|h|h
  ·refine .cons h ?_ (ih (ha.E h).2.2 h2)
   rcases hK k with k|k
   ·exact k
   ·have := hb.K k
    have:=(ha.E h).2
    omega
  ·have := (hb.E h).1
   omega
  ·have := back w (hx2 h) hx2
   omega
theorem Walk.right(ha:Rec a P lo mid)(hb:Rec b Q mid hi){X:Nat→Nat→Prop}{f:Frag}(hE:∀{q r},f.E q r→a.E q r∨b.E q r∨X q r)(hX:∀{q r},X q r→q<mid)(hK:∀{q c},f.K q c→a.K q c∨b.K q c){q q':Nat}{s:List Nat}(v:Walk f q s q'):
  mid≤q→Walk b q s q'∧mid≤q':=by
 induction v with
 |nil=>exact fun h=>⟨.nil,h⟩
 | cons e k w ih =>
  intro h1
  rcases hE e with h|h|h
  ·have := (ha.E h).1
   omega
  ·obtain ⟨i1, i2⟩ := ih (hb.E h).2.1
   refine⟨.cons h ?_ i1,i2⟩
   rcases hK k with k|k
   ·have := ha.K k
    have:=(hb.E h).2
    omega
   ·exact k
  ·have := hX h
   omega
theorem alt_rec (ha : Rec a P lo mid) (hb : Rec b Q mid hi) : Rec (altF a b) (fun s => P s ∨ Q s) lo hi := by
 have l1:=ha.le
 have l2:=hb.le
 refine⟨?_,⟨?_,?_⟩,by omega,fun h=>?_,fun h=>?_,fun h=>?_,fun h=>?_⟩
 ·show (a.e || b.e) = true ↔ _
  rw[Bool.or_eq_true,ha.e,hb.e]
 ·rintro ⟨q, q', h1, h2, h3, v⟩
  rcases h1 with h1|h1
  ·have hq := ha.F h1
   have hq' : q' < mid := by
    rcases h3 with h3|h3
    ·exact(ha.L h3).2
    ·apply Nat.lt_of_not_le
     intro hh
     have:∀{q q':Nat} {s:List Nat},Walk (altF a b) q s q'→q<mid→q'<mid:=by
      intro q q' s v
      induction v with
      |nil=>exact fun h=>h
      | cons e k w ih =>
       intro h
       rcases e with e|e
       ·exact ih (ha.E e).2.2
       ·have := (hb.E e).1
        omega
     have:=this v hq.2
     omega
   have v2:=Walk.left ha hb (X:=fun _ _=>False) (f:=altF a b) (fun e=>Or.elim e Or.inl fun e=>Or.inr (Or.inl e)) (fun h _=>False.elim h) (fun k=>k) v hq.2 hq'
   refine .inl (ha.f.1 ⟨q,q',h1,?_,?_,v2⟩)
   ·rcases h2 with h2 | h2
    ·exact h2
    ·have := hb.K h2
     omega
   ·rcases h3 with h3 | h3
    ·exact h3
    ·have := hb.L h3
     omega
  ·have hq := hb.F h1
   obtain⟨v2,hq'⟩:=Walk.right ha hb (X:=fun _ _=>False) (f:=altF a b) (fun e=>Or.elim e Or.inl fun e=>Or.inr (Or.inl e)) (fun h=>False.elim h) (fun k=>k) v hq.1
   refine .inr (hb.f.1 ⟨q,q',h1,?_,?_,v2⟩)
   ·rcases h2 with h2 | h2
    ·have := ha.K h2
     omega
    ·exact h2
   ·rcases h3 with h3 | h3
    ·have := ha.L h3
     omega
    ·exact h3
 ·rintro (h | h)
  ·obtain ⟨q, q', h1, h2, h3, v⟩ := ha.f.2 h
   exact⟨q,q',Or.inl h1,Or.inl h2,Or.inl h3,v.mono (b:=altF a b) (fun h=>Or.inl h) (fun h=>Or.inl h)⟩
  ·obtain ⟨q, q', h1, h2, h3, v⟩ := hb.f.2 h
   exact⟨q,q',Or.inr h1,Or.inr h2,Or.inr h3,v.mono (b:=altF a b) (fun h=>Or.inr h) (fun h=>Or.inr h)⟩
 ·rcases h with h | h
  ·have := ha.F h
   omega
  ·have := hb.F h
   omega
 ·rcases h with h | h
  ·have := ha.L h
   omega
  ·have := hb.L h
   omega
 ·rcases h with h | h
  ·have := ha.E h
   omega
  ·have := hb.E h
   omega
 ·rcases h with h | h
  ·have := ha.K h
   omega
  ·have := hb.K h
   omega
end
section
variable {a b:Frag}{P Q:List Nat→Prop}{lo mid hi:Nat}{e0:Bool}
theorem cat_split(ha:Rec a P lo mid)(hb:Rec b Q mid hi){q q':Nat}{s:List Nat}(v:Walk (catF a b) q s q'):q<mid→mid≤q'→∃s1 c s2 p r,s=s1++c::s2∧Walk a q s1 p∧a.L p∧b.F r∧b.K r c∧Walk b r s2 q':=by
 induction v with
 |nil=>intro h1 h2;omega
 | @cons q r q' c s e k w ih =>
  intro h1 h2
  have e':a.E q r∨b.E q r∨(a.L q∧b.F r):=e
  have k':a.K r c∨b.K r c:=k
  rcases e' with e'|e'|⟨e1,e2⟩
  ·obtain ⟨s1, c', s2, p, r', es, w1, hp, hr, hk, w2⟩ := ih (ha.E e').2.2 h2
   refine⟨c::s1,c',s2,p,r',by rw[es];rfl,.cons e' ?_ w1,hp,hr,hk,w2⟩
   rcases k' with k'|k'
   ·exact k'
   ·have := hb.K k'
    have:=(ha.E e').2
    omega
  ·have := (hb.E e').1
   omega
  ·have hr := hb.F e2
   refine⟨[],c,s,q,r,rfl,.nil,e1,e2,?_,(Walk.right ha hb (X:=fun q r=>a.L q∧b.F r) (f:=catF a b) (fun e=>e) (fun h=>(ha.L h.1).2) (fun k=>k) w hr.1).1⟩
   rcases k' with k'|k'
   ·have := ha.K k'
    omega
   ·exact k'
theorem cat_rec(ha:Rec a P lo mid)(hb:Rec b Q mid hi):Rec (catF a b) (Cat P Q) lo hi:=by
 have l1:=ha.le
 have l2:=hb.le
 refine⟨?_,⟨?_,?_⟩,by omega,fun h=>?_,fun h=>?_,fun h=>?_,fun h=>?_⟩
 ·show (a.e && b.e) = true ↔ _
  rw[Bool.and_eq_true,ha.e,hb.e]
  constructor
  ·exact fun ⟨h1,h2⟩=>⟨[],[],rfl,h1,h2⟩
  ·rintro ⟨s1, s2, e, h1, h2⟩
   obtain⟨rfl,rfl⟩:=List.append_eq_nil_iff.1 e.symm
   exact⟨h1,h2⟩
 ·rintro ⟨q, q', h1, h2, h3, v⟩
  rename_i c s
  have h1':a.F q∨(a.e=true∧b.F q):=h1
  have h2':a.K q c∨b.K q c:=h2
  have h3':b.L q'∨(b.e=true∧a.L q'):=h3
  rcases h1' with h1'|⟨he,h1'⟩
  ·have hq := ha.F h1'
   have hk:a.K q c:=by
    rcases h2' with h|h
    ·exact h
    ·have := hb.K h
     omega
   rcases h3' with h3'|⟨hbe,h3'⟩
   ·obtain ⟨s1, c', s2, p, r, es, w1, hp, hr, hk2, w2⟩ := cat_split ha hb v hq.2 (hb.L h3').1
    refine⟨c::s1,c'::s2,by rw[es];rfl,ha.f.1 ⟨q,p,h1',hk,hp,w1⟩,hb.f.1 ⟨r,q',hr,hk2,h3',w2⟩⟩
   ·have w := Walk.left ha hb (X := fun q r => a.L q ∧ b.F r) (f := catF a b) (fun e => e) (fun h h2 => by have := hb.F h.2; omega) (fun k => k) v hq.2 (ha.L h3').2
    exact⟨c::s,[],(List.append_nil _).symm,ha.f.1 ⟨q,q',h1',hk,h3',w⟩,hb.e.1 hbe⟩
  ·have hq := hb.F h1'
   obtain⟨w,hq'⟩:=Walk.right ha hb (X:=fun q r=>a.L q∧b.F r) (f:=catF a b) (fun e=>e) (fun h=>(ha.L h.1).2) (fun k=>k) v hq.1
   have hk:b.K q c:=by
    rcases h2' with h|h
    ·have := ha.K h
     omega
    ·exact h
   rcases h3' with h3'|⟨_,h3'⟩
   ·exact⟨[],c::s,rfl,ha.e.1 he,hb.f.1 ⟨q,q',h1',hk,h3',w⟩⟩
   ·have := ha.L h3'
    omega
 ·rintro ⟨s1, s2, es, hp, hq⟩
  have mb:∀{q q':Nat} {s:List Nat},Walk b q s q'→Walk (catF a b) q s q':=fun w=>Walk.mono (a:=b) (b:=catF a b) (fun h=>Or.inr (Or.inl h)) (fun h=>Or.inr h) w
  have ma:∀{q q':Nat} {s:List Nat},Walk a q s q'→Walk (catF a b) q s q':=fun w=>Walk.mono (a:=a) (b:=catF a b) (fun h=>Or.inl h) (fun h=>Or.inl h) w
  cases s1 with
  |nil=>
   rw[List.nil_append] at es
   rw[←es] at hq
   obtain⟨q,q',h1,h2,h3,v⟩:=hb.f.2 hq
   exact⟨q,q',Or.inr ⟨ha.e.2 hp,h1⟩,Or.inr h2,Or.inl h3,mb v⟩
  | cons c1 s1 =>
   rw[List.cons_append,List.cons.injEq] at es
   obtain⟨rfl,es⟩:=es
   obtain⟨q,p,h1,h2,h3,v⟩:=ha.f.2 hp
   cases s2 with
   |nil=>
    rw[List.append_nil] at es
    subst es
    exact⟨q,p,Or.inl h1,Or.inl h2,Or.inr ⟨hb.e.2 hq,h3⟩,ma v⟩
   |cons c2 s2=>
    obtain⟨r,q',g1,g2,g3,w⟩:=hb.f.2 hq
    subst es
    exact⟨q,q',Or.inl h1,Or.inl h2,Or.inl g3,(ma v).app (Walk.cons (a:=catF a b) (Or.inr (Or.inr ⟨h3,g1⟩)) (Or.inr g2) (mb w))⟩
 ·rcases h with h | ⟨_, h⟩
  ·have := ha.F h
   omega
  ·have := hb.F h
   omega
 ·rcases h with h | ⟨_, h⟩
  ·have := hb.L h
   omega
  ·have := ha.L h
   omega
 ·rcases h with h | h | ⟨h, g⟩
  ·have := ha.E h
   omega
  ·have := hb.E h
   omega
  ·have := ha.L h
   have:=hb.F g
   omega
 ·rcases h with h | h
  ·have := ha.K h
   omega
  ·have := hb.K h
   omega
theorem plus_nil:Plus P []↔P []:=by
 refine⟨fun h=>?_,fun h=>.one h⟩
 generalize hs:([]:List Nat)=s at h
 induction h with
 |one h=>
  subst hs
  exact h
 |more h _ _=>
  obtain⟨e1,_⟩:=List.append_eq_nil_iff.1 hs.symm
  rw[e1] at h
  rw[←hs]
  exact h
theorem more_parts(ha:Rec a P lo hi){q q':Nat}{s:List Nat}(v:Walk (moreF a e0) q s q'):a.L q'→∃s1 s2 p,s=s1++s2∧Walk a q s1 p∧a.L p∧(s2=[]∨Plus P s2):=by
 induction v with
 |nil=>exact fun h=>⟨[],[],_,rfl,.nil,h,.inl rfl⟩
 | @cons q r q' c s e k w ih =>
  intro h
  obtain⟨s1,s2,p,es,w1,hp,h2⟩:=ih h
  have e':a.E q r∨(a.L q∧a.F r):=e
  rcases e' with e'|⟨e1,e2⟩
  ·exact⟨c::s1,s2,p,by rw[es];rfl,.cons e' k w1,hp,h2⟩
  ·have hP := ha.f.1 ⟨r, p, e2, k, hp, w1⟩
   refine⟨[],c::s,q,rfl,.nil,e1,.inr ?_⟩
   rw[es]
   rcases h2 with rfl|h2
   ·rw [List.append_nil]
    exact .one hP
   ·exact .more hP h2
theorem more_fits(ha:Rec a P lo hi){c:Nat}{s:List Nat}:Fits1 (moreF a e0) (c::s)↔Plus P (c::s):=by
 have ma:∀{q q':Nat} {s:List Nat},Walk a q s q'→Walk (moreF a e0) q s q':=fun w=>Walk.mono (a:=a) (b:=moreF a e0) (fun h=>Or.inl h) (fun h=>h) w
 constructor
 ·rintro ⟨q, q', h1, h2, h3, v⟩
  obtain⟨s1,s2,p,es,w1,hp,h4⟩:=more_parts ha v h3
  have hP:=ha.f.1 ⟨q,p,h1,h2,hp,w1⟩
  rw[es]
  rcases h4 with rfl|h4
  ·rw [List.append_nil]
   exact .one hP
  ·exact .more hP h4
 ·intro h
  generalize hs:c::s=z at h
  induction h generalizing c s with
  |one h=>
   subst hs
   obtain⟨q,q',h1,h2,h3,v⟩:=ha.f.2 h
   exact⟨q,q',h1,h2,h3,ma v⟩
  | @more s1 t h m ih =>
   cases s1 with
   |nil=>exact ih hs
   | cons c1 s1 =>
    rw[List.cons_append,List.cons.injEq] at hs
    obtain⟨rfl,rfl⟩:=hs
    obtain⟨q,p,h1,h2,h3,v⟩:=ha.f.2 h
    cases t with
    |nil=>
     rw[List.append_nil]
     exact⟨q,p,h1,h2,h3,ma v⟩
    |cons c2 t=>
     obtain⟨r,q',g1,g2,g3,w⟩:=ih rfl
     exact⟨q,q',h1,h2,g3,(ma v).app (Walk.cons (a:=moreF a e0) (Or.inr ⟨h3,g1⟩) g2 w)⟩
theorem more_rec(ha:Rec a P lo hi){R:List Nat→Prop}(he:e0=true↔R [])(hR:∀{c s},R (c::s)↔Plus P (c::s)):Rec (moreF a e0) R lo hi:=by
 refine⟨he,(more_fits ha).trans hR.symm,ha.le,ha.F,ha.L,fun h=>?_,ha.K⟩
 rcases h with h|⟨h,g⟩
 ·exact ha.E h
 ·exact⟨ha.L h,ha.F g⟩
end
mutual
def Lang:Nd→List Nat→Prop
 | .mk op w ks=>if op=2 then (fun s=>∃c,s=[c]∧inW w c=true) else if op=3 then LCat ks else if op=4 then LAlt ks else if op=5 then (fun s=>s=[]∨Plus (LHead ks) s) else if op=6 then Plus (LHead ks) else if op=7 then (fun s=>s=[]∨LHead ks s) else (fun s=>s=[])
def LCat:List Nd→List Nat→Prop
 |[]=>fun s=>s=[]
 |k::ks=>Cat (Lang k) (LCat ks)
def LAlt:List Nd→List Nat→Prop
 |[]=>fun _=>False
 |k::ks=>fun s=>Lang k s∨LAlt ks s
def LHead:List Nd→List Nat→Prop
 |[]=>fun s=>s=[]
 |k::_=>Lang k
end
mutual
def fragT:Nd→Nat→Frag×Nat
 | .mk op w ks,u=>if op=2 then (setF w u,u+1) else if op=3 then catG ks noF u else if op=4 then altG ks badF u else if op=5 then (moreF (headG ks u).1 true,(headG ks u).2) else if op=6 then (moreF (headG ks u).1 (headG ks u).1.e,(headG ks u).2) else if op=7 then (optF (headG ks u).1,(headG ks u).2) else (noF,u)
def catG:List Nd→Frag→Nat→Frag×Nat
 |[],a,u=>(a,u)
 |k::ks,a,u=>catG ks (catF a (fragT k u).1) (fragT k u).2
def altG:List Nd→Frag→Nat→Frag×Nat
 |[],a,u=>(a,u)
 |k::ks,a,u=>altG ks (altF a (fragT k u).1) (fragT k u).2
def headG:List Nd→Nat→Frag×Nat
 |[],u=>(noF,u)
 |k::_,u=>fragT k u
end
theorem Rec.congr{a:Frag}{P Q:List Nat→Prop}{lo hi:Nat}(h:Rec a P lo hi)(hq:∀s,P s↔Q s):Rec a Q lo hi:=
 ⟨h.e.trans (hq _),h.f.trans (hq _),h.le,h.F,h.L,h.E,h.K⟩
theorem cat_assoc{P Q R:List Nat→Prop}(s:List Nat):Cat (Cat P Q) R s↔Cat P (Cat Q R) s:=by
 constructor
 ·rintro ⟨_, s3, rfl, ⟨s1, s2, rfl, h1, h2⟩, h3⟩
  exact⟨s1,s2++s3,List.append_assoc _ _ _,h1,s2,s3,rfl,h2,h3⟩
 ·rintro ⟨s1, _, rfl, h1, s2, s3, rfl, h2, h3⟩
  exact⟨s1++s2,s3,(List.append_assoc _ _ _).symm,⟨s1,s2,rfl,h1,h2⟩,h3⟩
theorem cat_nil_left{P:List Nat→Prop}(s:List Nat):Cat (fun s=>s=[]) P s↔P s:=by
 constructor
 ·rintro ⟨_, s2, rfl, rfl, h⟩
  exact h
 ·exact fun h=>⟨[],s,rfl,rfl,h⟩
theorem cat_nil_right{P:List Nat→Prop}(s:List Nat):Cat P (fun s=>s=[]) s↔P s:=by
 constructor
 ·rintro ⟨s1, _, rfl, h, rfl⟩
  rw[List.append_nil]
  exact h
 ·exact fun h=>⟨s,[],(List.append_nil _).symm,h,rfl⟩
mutual
theorem frag_rec:∀(t:Nd) (u:Nat),Rec (fragT t u).1 (Lang t) u (fragT t u).2
 | .mk op w ks, u => by
  rw[fragT,Lang]
  by_cases h2:op=2
  ·rw [if_pos h2, if_pos h2]
   exact setF_rec
  rw[if_neg h2,if_neg h2]
  by_cases h3:op=3
  ·rw [if_pos h3, if_pos h3]
   exact(catG_rec ks (noF_rec u)).congr cat_nil_left
  rw[if_neg h3,if_neg h3]
  by_cases h4:op=4
  ·rw [if_pos h4, if_pos h4]
   exact(altG_rec ks (badF_rec u)).congr fun s=>⟨fun h=>h.elim (fun h=>h.elim) (fun h=>h),.inr⟩
  rw[if_neg h4,if_neg h4]
  have hh:=headG_rec ks u
  by_cases h5:op=5
  ·rw [if_pos h5, if_pos h5]
   exact more_rec hh ⟨fun _=>.inl rfl,fun _=>rfl⟩ ⟨fun h=>h.elim (fun h=>nomatch h) (fun h=>h),.inr⟩
  rw[if_neg h5,if_neg h5]
  by_cases h6:op=6
  ·rw [if_pos h6, if_pos h6]
   exact more_rec hh (hh.e.trans plus_nil.symm) .rfl
  rw[if_neg h6,if_neg h6]
  by_cases h7:op=7
  ·rw [if_pos h7, if_pos h7]
   exact opt_rec hh
  ·rw [if_neg h7, if_neg h7]
   exact noF_rec u
theorem catG_rec:∀(ks:List Nd) {a:Frag} {P:List Nat→Prop} {lo u:Nat},Rec a P lo u→Rec (catG ks a u).1 (Cat P (LCat ks)) lo (catG ks a u).2
 |[],_,_,_,_,h=>by
  rw[catG,LCat]
  exact h.congr fun s=>(cat_nil_right s).symm
 |k::ks,_,_,_,_,h=>by
  rw[catG,LCat]
  exact(catG_rec ks (cat_rec h (frag_rec k _))).congr cat_assoc
theorem altG_rec:∀(ks:List Nd) {a:Frag} {P:List Nat→Prop} {lo u:Nat},Rec a P lo u→Rec (altG ks a u).1 (fun s=>P s∨LAlt ks s) lo (altG ks a u).2
 |[],_,_,_,_,h=>by
  rw[altG,LAlt]
  exact h.congr fun s=>⟨.inl,fun h=>h.elim (fun h=>h) (fun h=>h.elim)⟩
 |k::ks,_,_,_,_,h=>by
  rw[altG,LAlt]
  exact(altG_rec ks (alt_rec h (frag_rec k _))).congr fun s=>or_assoc
theorem headG_rec:∀(ks:List Nd) (u:Nat),Rec (headG ks u).1 (LHead ks) u (headG ks u).2
 |[],u=>by
  rw[headG,LHead]
  exact noF_rec u
 |k::_,u=>by
  rw[headG,LHead]
  exact frag_rec k u
end
def bitE(N:Nt)(q r:Nat):Prop:=(N.fo.getD q 0).testBit r=true
def bitK(N:Nt)(r c:Nat):Prop:=(N.ta.getD c 0).testBit r=true
structure Rep (p:Pc) (a:Frag):Prop where
 e:p.empty=a.e
 F:∀q,p.first.testBit q=true↔a.F q
 L:∀q,p.last.testBit q=true↔a.L q
structure RepN (N N':Nt) (a:Frag):Prop where
 E:∀q r,bitE N' q r↔bitE N q r∨a.E q r
 K:∀r c,c<256→(bitK N' r c↔bitK N r c∨a.K r c)
theorem small_bit{x q:Nat}(h:x<18446744073709551616)(hq:x.testBit q=true):q<64:=by
 apply Nat.lt_of_not_le
 intro hh
 have h1:=Nat.pow_le_pow_right (n:=2) (by decide) hh
 rw[Nat.testBit_lt_two_pow (by omega)] at hq
 cases hq
theorem mapI_getD(g:Nat→Nat→Nat){l:List Nat}{q:Nat}(h:q<l.length):(mapI g 0 l).getD q 0=g q (l.getD q 0):=by
 rw[List.getD_eq_getElem?_getD,List.getD_eq_getElem?_getD,mapI_get,Nat.zero_add,List.getElem?_eq_getElem h]
 rfl
theorem getD_out{l:List Nat}{q:Nat}(h:l.length≤q):l.getD q 0=0:=by
 rw[List.getD_eq_getElem?_getD,List.getElem?_eq_none h]
 rfl
theorem follow_bit{N:Nt}(k:NtOk N){those these:Nat}(ht:those<18446744073709551616)(q r:Nat):bitE (N.follow those these) q r↔bitE N q r∨(those.testBit q=true∧these.testBit r=true):=by
 unfold bitE
 show ((mapI (folG those these) 0 N.fo).getD q 0).testBit r=true↔_
 by_cases hq:q<64
 ·rw [mapI_getD _ (by rw [k.fl]; exact hq)]
  unfold folG
  by_cases hb:those.testBit q=true
  ·rw [if_pos hb, Nat.testBit_or, Bool.or_eq_true]
   simp[hb]
  ·rw [if_neg hb]
   simp[hb]
 ·rw [getD_out (by rw [mapI_len, k.fl]; omega), getD_out (by rw [k.fl]; omega), Nat.zero_testBit]
  constructor
  ·exact fun h=>nomatch h
  ·rintro (h | ⟨h, _⟩)
   ·exact h
   ·exact absurd (small_bit ht h) hq
theorem place_bit{N:Nt}(k:NtOk N){w:List Nat}{u:Nat}(hu:u<64)(r c:Nat)(hc:c<256):bitK (N.place w (bitN u)) r c↔bitK N r c∨(r=u∧inW w c=true):=by
 unfold bitK
 show ((mapI (plG w (bitN u)) 0 N.ta).getD c 0).testBit r=true↔_
 rw[mapI_getD _ (by rw[k.tl];exact hc)]
 unfold plG bitN
 rw[if_pos hu]
 by_cases hb:inW w c=true
 ·rw [if_pos hb, Nat.testBit_or, Bool.or_eq_true, Nat.testBit_two_pow, decide_eq_true_eq]
  simp only[hb,and_true]
  exact or_congr .rfl eq_comm
 ·rw [if_neg hb]
  simp[hb]
section
variable {N0 N N1:Nt}{a b:Frag}{p q:Pc}
theorem RepN.refl(N:Nt)(e:Bool):RepN N N ⟨e,fun _=>False,fun _=>False,fun _ _=>False,fun _ _=>False⟩:=⟨fun _ _=>(or_false _).to_iff.symm,fun _ _ _=>(or_false _).to_iff.symm⟩
theorem RepN.cat(k:NtOk N1)(hp:PcOk p)(h1:RepN N0 N a)(h2:RepN N N1 b)(rp:Rep p a)(rq:Rep q b):RepN N0 (N1.follow p.last q.first) (catF a b):=by
 refine⟨fun x y=>?_,fun x c hc=>?_⟩
 ·rw [follow_bit k hp.l, h2.E, h1.E, rp.L, rq.F]
  show _↔_∨(a.E x y∨b.E x y∨(a.L x∧b.F y))
  rw[or_assoc,or_assoc]
 ·have : bitK (N1.follow p.last q.first) x c ↔ bitK N1 x c := .rfl
  rw[this,h2.K x c hc,h1.K x c hc]
  show _↔_∨(a.K x c∨b.K x c)
  rw[or_assoc]
theorem Rep.cat(rp:Rep p a)(rq:Rep q b):Rep (behN p q) (catF a b):=by
 refine⟨?_,fun x=>?_,fun x=>?_⟩
 ·show (p.empty && q.empty) = (a.e && b.e)
  rw[rp.e,rq.e]
 ·show (if p.empty = true then p.first ||| q.first else p.first).testBit x = true ↔ a.F x ∨ (a.e = true ∧ b.F x)
  rw[rp.e]
  by_cases h:a.e=true
  ·rw [if_pos h, Nat.testBit_or, Bool.or_eq_true, rp.F, rq.F]
   simp[h]
  ·rw [if_neg h, rp.F]
   simp[h]
 ·show (if q.empty = true then q.last ||| p.last else q.last).testBit x = true ↔ b.L x ∨ (b.e = true ∧ a.L x)
  rw[rq.e]
  by_cases h:b.e=true
  ·rw [if_pos h, Nat.testBit_or, Bool.or_eq_true, rp.L, rq.L]
   simp[h]
  ·rw [if_neg h, rq.L]
   simp[h]
theorem RepN.alt(h1:RepN N0 N a)(h2:RepN N N1 b):RepN N0 N1 (altF a b):=by
 refine⟨fun x y=>?_,fun x c hc=>?_⟩
 ·rw [h2.E, h1.E]
  show _↔_∨(a.E x y∨b.E x y)
  rw[or_assoc]
 ·rw [h2.K x c hc, h1.K x c hc]
  show _↔_∨(a.K x c∨b.K x c)
  rw[or_assoc]
theorem Rep.alt(rp:Rep p a)(rq:Rep q b):Rep (altP p q) (altF a b):=by
 refine⟨?_,fun x=>?_,fun x=>?_⟩
 ·show (p.empty || q.empty) = (a.e || b.e)
  rw[rp.e,rq.e]
 ·show (p.first ||| q.first).testBit x = true ↔ a.F x ∨ b.F x
  rw[Nat.testBit_or,Bool.or_eq_true,rp.F,rq.F]
 ·show (p.last ||| q.last).testBit x = true ↔ a.L x ∨ b.L x
  rw[Nat.testBit_or,Bool.or_eq_true,rp.L,rq.L]
theorem RepN.more(k:NtOk N)(hp:PcOk p)(h1:RepN N0 N a)(rp:Rep p a)(e:Bool):RepN N0 (N.follow p.last p.first) (moreF a e):=by
 refine⟨fun x y=>?_,fun x c hc=>h1.K x c hc⟩
 rw[follow_bit k hp.l,h1.E,rp.L,rp.F]
 show _↔_∨(a.E x y∨(a.L x∧a.F y))
 rw[or_assoc]
theorem rep_no(e:Bool):Rep ⟨e,0,0⟩ ⟨e,fun _=>False,fun _=>False,fun _ _=>False,fun _ _=>False⟩:=⟨rfl,fun q=>by rw[Nat.zero_testBit];simp,fun q=>by rw[Nat.zero_testBit];simp⟩
end
structure Reps (N0:Nt) (x:Pc×Nt×Nat) (y:Frag×Nat):Prop where
 p:Rep x.1 y.1
 n:RepN N0 x.2.1 y.1
 u:x.2.2=y.2
mutual
theorem frag_le:∀(t:Nd) (u:Nat),u≤(fragT t u).2
 |t,u=>(frag_rec t u).le
theorem catG_le:∀(ks:List Nd) (a:Frag) (u:Nat),u≤(catG ks a u).2
 |[],_,_=>Nat.le_refl _
 |k::ks,_,u=>Nat.le_trans (frag_le k u) (catG_le ks _ _)
theorem altG_le:∀(ks:List Nd) (a:Frag) (u:Nat),u≤(altG ks a u).2
 |[],_,_=>Nat.le_refl _
 |k::ks,_,u=>Nat.le_trans (frag_le k u) (altG_le ks _ _)
end
mutual
theorem piece_rep:∀(t:Nd) {N:Nt} {u:Nat},NtOk N→(fragT t u).2≤64→Reps N (pieceN t N u) (fragT t u)
 | .mk op w ks, N, u, k, h => by
  rw[fragT] at h
  rw[pieceN,fragT]
  by_cases h2:op=2
  ·rw [if_pos h2] at h
   rw[if_pos h2,if_pos h2]
   have hu:u<64:=h
   refine⟨⟨rfl,fun q=>?_,fun q=>?_⟩,⟨fun q r=>?_,fun r c hc=>place_bit k hu r c hc⟩,rfl⟩
   ·show (bitN u).testBit q = true ↔ q = u
    unfold bitN
    rw[if_pos hu,Nat.testBit_two_pow,decide_eq_true_eq]
    exact eq_comm
   ·show (bitN u).testBit q = true ↔ q = u
    unfold bitN
    rw[if_pos hu,Nat.testBit_two_pow,decide_eq_true_eq]
    exact eq_comm
   ·exact(or_false _).to_iff.symm
  rw[if_neg h2] at h
  rw[if_neg h2,if_neg h2]
  by_cases h3:op=3
  ·rw [if_pos h3] at h
   rw[if_pos h3,if_pos h3]
   exact catN_rep ks k noPc_ok (rep_no true) (RepN.refl N true) h
  rw[if_neg h3] at h
  rw[if_neg h3,if_neg h3]
  by_cases h4:op=4
  ·rw [if_pos h4] at h
   rw[if_pos h4,if_pos h4]
   exact altN_rep ks k (rep_no false) (RepN.refl N false) h
  rw[if_neg h4] at h
  rw[if_neg h4,if_neg h4]
  have hk:=headN_ok ks (u:=u) k
  by_cases h5:op=5
  ·subst h5
   rw[if_pos rfl] at h
   rw[if_pos (.inl rfl),if_pos rfl]
   have r:=headN_rep ks k h
   refine⟨⟨?_,r.p.F,r.p.L⟩,r.n.more hk.n hk.p r.p true,r.u⟩
   show ((headN ks N u).1.empty||true)=true
   rw[Bool.or_true]
  rw[if_neg h5] at h
  by_cases h6:op=6
  ·subst h6
   rw[if_pos rfl] at h
   rw[if_pos (.inr rfl),if_neg h5,if_pos rfl]
   have r:=headN_rep ks k h
   refine⟨⟨?_,r.p.F,r.p.L⟩,r.n.more hk.n hk.p r.p _,r.u⟩
   show ((headN ks N u).1.empty||false)=_
   rw[Bool.or_false]
   exact r.p.e
  rw[if_neg h6] at h
  rw[if_neg (fun hh=>hh.elim h5 h6),if_neg h5,if_neg h6]
  by_cases h7:op=7
  ·rw [if_pos h7] at h
   rw[if_pos h7,if_pos h7]
   have r:=headN_rep ks k h
   exact⟨⟨rfl,r.p.F,r.p.L⟩,⟨r.n.E,r.n.K⟩,r.u⟩
  ·rw [if_neg h7, if_neg h7]
   exact⟨rep_no true,RepN.refl N true,rfl⟩
theorem catN_rep:∀(ks:List Nd) {N0 N:Nt} {p:Pc} {a:Frag} {u:Nat},NtOk N→PcOk p→Rep p a→RepN N0 N a→(catG ks a u).2≤64→Reps N0 (catN ks p N u) (catG ks a u)
 |[],_,_,_,_,_,_,_,rp,rn,_=>⟨rp,rn,rfl⟩
 |k::ks,N0,N,p,a,u,hN,hp,rp,rn,h=>by
  rw[catG] at h
  rw[catN,catG]
  have r:=piece_rep k hN (Nat.le_trans (catG_le ks _ _) h)
  have o:=pieceN_ok k (u:=u) hN
  have:=catN_rep ks (N0:=N0) (u:=(fragT k u).2) (o.n.follow (those:=p.last) o.p.f) (behN_ok hp o.p) (rp.cat r.p) (RepN.cat o.n hp rn r.n rp r.p) h
  rw[r.u]
  exact this
theorem altN_rep:∀(ks:List Nd) {N0 N:Nt} {p:Pc} {a:Frag} {u:Nat},NtOk N→Rep p a→RepN N0 N a→(altG ks a u).2≤64→Reps N0 (altN ks p N u) (altG ks a u)
 |[],_,_,_,_,_,_,rp,rn,_=>⟨rp,rn,rfl⟩
 |k::ks,N0,N,p,a,u,hN,rp,rn,h=>by
  rw[altG] at h
  rw[altN,altG]
  have r:=piece_rep k hN (Nat.le_trans (altG_le ks _ _) h)
  have o:=pieceN_ok k (u:=u) hN
  have:=altN_rep ks (N0:=N0) (u:=(fragT k u).2) o.n (rp.alt r.p) (rn.alt r.n) h
  rw[r.u]
  exact this
theorem headN_rep:∀(ks:List Nd) {N:Nt} {u:Nat},NtOk N→(headG ks u).2≤64→Reps N (headN ks N u) (headG ks u)
 |[],N,_,_,_=>⟨rep_no true,RepN.refl N true,rfl⟩
 |k::_,_,_,hN,h=>by
  rw[headG] at h
  rw[headN,headG]
  exact piece_rep k hN h
end
theorem and_ne{x y:Nat}:x&&&y≠0↔∃r,x.testBit r=true∧y.testBit r=true:=by
 constructor
 ·intro h
  apply Classical.byContradiction
  intro hn
  refine h (Nat.eq_of_testBit_eq fun i=>?_)
  rw[Nat.zero_testBit,Nat.testBit_and]
  cases hx:x.testBit i with
  |false=>rfl
  |true=>
   cases hy:y.testBit i with
   |false=>rfl
   |true=>exact absurd ⟨i,hx,hy⟩ hn
 ·rintro ⟨r, h1, h2⟩ h
  have:=congrArg (fun z=>z.testBit r) h
  rw[Nat.testBit_and,h1,h2,Nat.zero_testBit] at this
  cases this
theorem ahead_bit(fo:List Nat)(these q:Nat):∀i,(aheadF fo these i).testBit q=true↔q<i∧∃r,(fo.getD q 0).testBit r=true∧these.testBit r=true
 |0=>by
  rw[aheadF,Nat.zero_testBit]
  simp
 | i + 1 => by
  rw[aheadF]
  by_cases hz:fo.getD i 0&&&these≠0
  ·rw [if_pos hz, Nat.testBit_or, Bool.or_eq_true, ahead_bit fo these q i, Nat.testBit_two_pow, decide_eq_true_eq]
   constructor
   ·rintro (⟨h, h2⟩ | rfl)
    ·exact⟨by omega,h2⟩
    ·exact⟨by omega,and_ne.1 hz⟩
   ·rintro ⟨h, h2⟩
    by_cases hq:q=i
    ·exact .inr hq.symm
    ·exact .inl ⟨by omega,h2⟩
  ·rw [if_neg hz, ahead_bit fo these q i]
   constructor
   ·exact fun ⟨h,h2⟩=>⟨by omega,h2⟩
   ·rintro ⟨h, h2⟩
    by_cases hq:q=i
    ·subst hq
     exact absurd (and_ne.2 h2) hz
    ·exact⟨by omega,h2⟩
theorem orF_bit(ta:List Nat)(q:Nat):∀i,(orF ta i).testBit q=true↔∃c,c<i∧(ta.getD c 0).testBit q=true
 |0=>by
  rw[orF,Nat.zero_testBit]
  simp
 | i + 1 => by
  rw[orF,Nat.testBit_or,Bool.or_eq_true,orF_bit ta q i]
  constructor
  ·rintro (⟨c, h, h2⟩ | h)
   ·exact⟨c,by omega,h2⟩
   ·exact⟨i,by omega,h⟩
  ·rintro ⟨c, h, h2⟩
   by_cases hc:c=i
   ·subst hc
    exact .inr h2
   ·exact .inl ⟨c,by omega,h2⟩
theorem live_fix(fo:List Nat)(sm:Nat):∀(f live more:Nat),(if more=0 then 0 else 18446744073709551616 - live)<f→live<18446744073709551616→(more=0→moreN fo sm live=0)→moreN fo sm (liveF fo sm f live more)=0∧∀q,live.testBit q=true→(liveF fo sm f live more).testBit q=true
 |0,_,_,h,_,_=>by omega
 | f + 1, live, more, h, hl, h0 => by
  rw[liveF]
  by_cases hm:more=0
  ·rw [if_pos hm]
   exact⟨h0 hm,fun _ h=>h⟩
  ·rw [if_neg hm] at h
   rw[if_neg hm]
   have hup:moreN fo sm live≠0→live<live|||moreN fo sm live:=more_up
   have hs:=or_small hl (moreN_small fo sm live)
   obtain⟨i1,i2⟩:=live_fix fo sm f (live|||moreN fo sm live) (moreN fo sm live) (by
    split
    ·omega
    ·have := hup (by assumption)
     omega) hs (fun e=>by rw[e,Nat.or_zero];exact e)
   exact⟨i1,fun q hq=>i2 q (by rw[Nat.testBit_or,hq];rfl)⟩
def netF(N:Nt):Frag:=⟨N.empty,fun q=>N.first.testBit q=true,fun q=>N.last.testBit q=true,bitE N,bitK N⟩
def someB(N:Nt)(q:Nat):Prop:=∃c,c<256∧bitK N q c
section
variable {N:Nt}(k:NtOk N)
include k
theorem live_all:moreN N.fo (orF N.ta 256) N.live=0∧∀q,(N.last&&&orF N.ta 256).testBit q=true→N.live.testBit q=true:=by
 refine live_fix N.fo (orF N.ta 256) 18446744073709551620 _ _ (by split<;>omega) (and_small k.l) fun e=>?_
 rw[e]
 refine Nat.eq_of_testBit_eq fun i=>?_
 rw[Nat.zero_testBit]
 cases hb:(moreN N.fo (orF N.ta 256) 0).testBit i with
 |false=>rfl
 |true=>
  unfold moreN at hb
  rw[lack_bit,Nat.testBit_and,Bool.and_eq_true,Bool.and_eq_true,ahead_bit] at hb
  obtain⟨⟨⟨_,r,_,h⟩,_⟩,_⟩:=hb
  rw[Nat.zero_testBit] at h
  cases h
theorem live_last{q:Nat}(h:N.last.testBit q=true)(hs:someB N q):N.live.testBit q=true:=by
 refine(live_all k).2 q ?_
 rw[Nat.testBit_and,h,(orF_bit N.ta q 256).2 hs]
 rfl
theorem live_back{q r:Nat}(h:bitE N q r)(hr:N.live.testBit r=true)(hs:someB N q):N.live.testBit q=true:=by
 have hq:q<64:=by
  apply Nat.lt_of_not_le
  intro hh
  unfold bitE at h
  rw[getD_out (by rw[k.fl];exact hh),Nat.zero_testBit] at h
  cases h
 cases hb:N.live.testBit q with
 |true=>rfl
 |false=>
  have e:=congrArg (fun z=>z.testBit q) (live_all k).1
  unfold moreN at e
  rw[lack_bit,Nat.testBit_and,(ahead_bit _ _ _ _).2 ⟨hq,r,h,hr⟩,(orF_bit N.ta q 256).2 hs,hb,Nat.zero_testBit] at e
  cases e
theorem trim_K{q c:Nat}(hc:c<256):bitK N.trim q c↔bitK N q c∧N.live.testBit q=true:=by
 unfold bitK
 show ((mapI (cutG N.live) 0 N.ta).getD c 0).testBit q=true↔_
 rw[mapI_getD _ (by rw[k.tl];exact hc)]
 unfold cutG
 rw[Nat.testBit_and,Bool.and_eq_true]
theorem walk_live{q q':Nat}{s:List Nat}(w:Walk (netF N) q s q'):(∀c∈s,c<256)→N.last.testBit q'=true→someB N q→N.live.testBit q=true∧Walk (netF N.trim) q s q':=by
 induction w with
 |nil=>exact fun _ hl hs=>⟨live_last k hl hs,.nil⟩
 | @cons q r q' c s e kk w ih=>
  intro hc hl hs
  have h1:=hc c List.mem_cons_self
  obtain⟨i1,i2⟩:=ih (fun c h=>hc c (List.mem_cons_of_mem _ h)) hl ⟨c,h1,kk⟩
  exact⟨live_back k e i1 hs,Walk.cons (a:=netF N.trim) e ((trim_K k h1).2 ⟨kk,i1⟩) i2⟩
theorem walk_raw{q q':Nat}{s:List Nat}(w:Walk (netF N.trim) q s q'):(∀c∈s,c<256)→Walk (netF N) q s q':=by
 induction w with
 |nil=>exact fun _=>.nil
 | @cons q r q' c s e kk w ih=>exact fun hc=>Walk.cons (a:=netF N) e ((trim_K k (hc c List.mem_cons_self)).1 kk).1 (ih fun c h=>hc c (List.mem_cons_of_mem _ h))
theorem trim_fits{s:List Nat}(hc:∀c∈s,c<256):Fits1 (netF N.trim) s↔Fits1 (netF N) s:=by
 cases s with
 |nil=>exact .rfl
 | cons c s =>
  have h1:=hc c List.mem_cons_self
  have h2:=fun c h=>hc c (List.mem_cons_of_mem _ h)
  constructor
  ·rintro ⟨q, q', g1, g2, g3, w⟩
   have g1':(N.first&&&N.live).testBit q=true:=g1
   rw[Nat.testBit_and,Bool.and_eq_true] at g1'
   exact⟨q,q',g1'.1,((trim_K k h1).1 g2).1,g3,walk_raw k w h2⟩
  ·rintro ⟨q, q', g1, g2, g3, w⟩
   obtain⟨i1,i2⟩:=walk_live k w h2 g3 ⟨c,h1,g2⟩
   refine⟨q,q',?_,(trim_K k h1).2 ⟨g2,i1⟩,g3,i2⟩
   show (N.first&&&N.live).testBit q=true
   rw[Nat.testBit_and,Bool.and_eq_true]
   exact⟨g1,i1⟩
theorem run_bit(s:Bytes):∀{m:Nat},m<18446744073709551616→∀q,(runN N (true,m) s).2.testBit q=true↔∃q0,m.testBit q0=true∧Walk (netF N) q0 (s.map UInt8.toNat) q:=by
 induction s with
 | nil =>
  intro m _ q
  constructor
  ·exact fun h=>⟨q,h,.nil⟩
  ·rintro ⟨q0, h, w⟩
   cases w
   exact h
 | cons c s ih =>
  intro m hm q
  have hs:=step_small k (true,m) c.toNat
  have he:stepN N (true,m) c.toNat=(true,N.behind m&&&N.ta.getD c.toNat 0):=by
   unfold stepN
   rw[if_pos rfl]
  rw[he] at hs
  have hr:runN N (true,m) (c::s)=runN N (true,N.behind m&&&N.ta.getD c.toNat 0) s:=by
   rw[←he]
   unfold runN
   rw[List.foldl_cons]
  rw[hr,ih hs q]
  constructor
  ·rintro ⟨r, h, w⟩
   rw[Nat.testBit_and,Bool.and_eq_true,behind_bit hm] at h
   obtain⟨⟨q0,g1,g2⟩,g3⟩:=h
   exact⟨q0,g1,Walk.cons (a:=netF N) g2 g3 w⟩
  ·rintro ⟨q0, h, w⟩
   cases w with
   | @cons _ r _ _ _ e kk w=>
    refine⟨r,?_,w⟩
    rw[Nat.testBit_and,Bool.and_eq_true,behind_bit hm]
    exact⟨⟨q0,h,e⟩,kk⟩
theorem match_fits(c:UInt8)(s:Bytes):matchN N (c::s)=true↔Fits1 (netF N) ((c::s).map UInt8.toNat):=by
 have hs:N.first&&&N.ta.getD c.toNat 0<18446744073709551616:=and_small k.f
 have hb:(runN N (true,N.first&&&N.ta.getD c.toNat 0) s).1=true:=by
  have:∀(s:Bytes) (m:Nat),(runN N (true,m) s).1=true:=by
   intro s
   induction s with
   |nil=>exact fun _=>rfl
   |cons c s ih=>exact fun m=>ih _
  exact this s _
 show doneN N (runN N (true,N.first&&&N.ta.getD c.toNat 0) s)=true↔_
 unfold doneN
 rw[if_pos hb,decide_eq_true_eq,and_ne]
 constructor
 ·rintro ⟨q', h1, h2⟩
  obtain⟨q,g1,w⟩:=(run_bit k s hs q').1 h1
  rw[Nat.testBit_and,Bool.and_eq_true] at g1
  exact⟨q,q',g1.1,g1.2,h2,w⟩
 ·rintro ⟨q, q', g1, g2, g3, w⟩
  refine⟨q',(run_bit k s hs q').2 ⟨q,?_,w⟩,g3⟩
  rw[Nat.testBit_and,Bool.and_eq_true]
  exact⟨g1,g2⟩
end
theorem zero_getD{n i:Nat}:(List.replicate n 0).getD i 0=0:=by
 rw[List.getD_eq_getElem?_getD,List.getElem?_replicate]
 split<;>rfl
theorem raw_rep{t:Nd}(h:(fragT t 0).2≤64):Rep (pieceN t zeroNet 0).1 (fragT t 0).1∧(∀q r,bitE (rawOf t) q r↔(fragT t 0).1.E q r)∧(∀r c,c<256→(bitK (rawOf t) r c↔(fragT t 0).1.K r c)):=by
 have r:=piece_rep t zeroNet_ok h
 refine⟨r.p,fun q x=>(r.n.E q x).trans ⟨fun h=>h.elim (fun h=>?_) (fun h=>h),.inr⟩,fun x c hc=>(r.n.K x c hc).trans ⟨fun h=>h.elim (fun h=>?_) (fun h=>h),.inr⟩⟩
 ·unfold bitE at h
  rw[show zeroNet.fo=List.replicate 64 0 from rfl,zero_getD,Nat.zero_testBit] at h
  cases h
 ·unfold bitK at h
  rw[show zeroNet.ta=List.replicate 256 0 from rfl,zero_getD,Nat.zero_testBit] at h
  cases h
theorem raw_fits{t:Nd}(h:(fragT t 0).2≤64){s:List Nat}(hc:∀c∈s,c<256):Fits1 (netF (rawOf t)) s↔Fits1 (fragT t 0).1 s:=by
 obtain⟨r1,r2,r3⟩:=raw_rep h
 have w1:∀{q q':Nat} {s:List Nat},Walk (netF (rawOf t)) q s q'→(∀c∈s,c<256)→Walk (fragT t 0).1 q s q':=by
  intro q q' s w
  induction w with
  |nil=>exact fun _=>.nil
  |cons e kk _ ih=>exact fun hc=>.cons ((r2 _ _).1 e) ((r3 _ _ (hc _ List.mem_cons_self)).1 kk) (ih fun c h=>hc c (List.mem_cons_of_mem _ h))
 have w2:∀{q q':Nat} {s:List Nat},Walk (fragT t 0).1 q s q'→(∀c∈s,c<256)→Walk (netF (rawOf t)) q s q':=by
  intro q q' s w
  induction w with
  |nil=>exact fun _=>.nil
  |cons e kk _ ih=>exact fun hc=>Walk.cons (a:=netF (rawOf t)) ((r2 _ _).2 e) ((r3 _ _ (hc _ List.mem_cons_self)).2 kk) (ih fun c h=>hc c (List.mem_cons_of_mem _ h))
 cases s with
 |nil=>exact .rfl
 | cons c s =>
  have h1:=hc c List.mem_cons_self
  have h2:=fun c h=>hc c (List.mem_cons_of_mem _ h)
  constructor
  ·rintro ⟨q, q', g1, g2, g3, w⟩
   exact⟨q,q',(r1.F q).1 g1,(r3 _ _ h1).1 g2,(r1.L q').1 g3,w1 w h2⟩
  ·rintro ⟨q, q', g1, g2, g3, w⟩
   exact⟨q,q',(r1.F q).2 g1,(r3 _ _ h1).2 g2,(r1.L q').2 g3,w2 w h2⟩
theorem match_lang{t:Nd}(h:(fragT t 0).2≤64)(s:Bytes):matchN (netOf t) s=true↔Lang t (s.map UInt8.toNat):=by
 have fr:=frag_rec t 0
 cases s with
 |nil=>
  have e:matchN (netOf t) []=(fragT t 0).1.e:=(raw_rep h).1.e
  rw[e]
  exact fr.e
 | cons c s =>
  have hc:∀x∈(c::s).map UInt8.toNat,x<256:=fun x hx=>by
   obtain⟨y,_,rfl⟩:=List.mem_map.1 hx
   exact y.toNat_lt
  rw[match_fits (netOf_ok t) c s]
  exact(trim_fits (rawOf_ok t) hc).trans ((raw_fits h hc).trans fr.f)
open Go.RowKit Abs
theorem inW_zero(i:Nat):inW zeroW i=false:=by
 unfold inW zeroW
 have:([0,0,0,0]:List Nat).getD (i/64) 0=0:=by
  rw[List.getD_eq_getElem?_getD]
  match i/64 with
  |0=>rfl
  |1=>rfl
  |2=>rfl
  |3=>rfl
  |_+4=>rfl
 rw[this,Nat.zero_testBit]
theorem inW_add{w:List Nat}(hw:WordsOk w){c i:Nat}(hc:c<256):inW (addW w c) i=(inW w i||decide (i=c)):=by
 unfold inW addW
 have hl:=hw.len
 by_cases h:c/64=i/64
 ·rw [← h, List.getD_eq_getElem?_getD, List.getElem?_set_self (by omega), Option.getD_some, Nat.testBit_or, Nat.testBit_two_pow]
  congr 1
  refine decide_eq_decide.2 ⟨fun h2=>by omega,fun h2=>by rw[h2]⟩
 ·rw[List.getD_eq_getElem?_getD,List.getElem?_set_ne h, ←List.getD_eq_getElem?_getD,decide_eq_false (by intro h2;exact h (by rw[h2])),Bool.or_false]
mutual
def cntN:Nd→Nat
 | .mk op _ ks=>if op=2 then 1 else cntL ks
def cntL:List Nd→Nat
 |[]=>0
 |k::ks=>cntN k+cntL ks
end
mutual
theorem frag_cnt:∀(t:Nd) (u:Nat),(fragT t u).2≤u+cntN t
 | .mk op w ks, u => by
  rw[fragT,cntN]
  have h1:=catG_cnt ks noF u
  have h2:=altG_cnt ks badF u
  have h3:=headG_cnt ks u
  by_cases e2:op=2
  ·rw [if_pos e2, if_pos e2]
   exact Nat.le_refl _
  rw[if_neg e2,if_neg e2]
  split
  ·exact h1
  split
  ·exact h2
  split
  ·exact h3
  split
  ·exact h3
  split
  ·exact h3
  ·exact Nat.le_add_right _ _
theorem catG_cnt:∀(ks:List Nd) (a:Frag) (u:Nat),(catG ks a u).2≤u+cntL ks
 |[],_,_=>Nat.le_refl _
 |k::ks,a,u=>by
  have h1:=frag_cnt k u
  have h2:=catG_cnt ks (catF a (fragT k u).1) (fragT k u).2
  rw[catG,cntL]
  omega
theorem altG_cnt:∀(ks:List Nd) (a:Frag) (u:Nat),(altG ks a u).2≤u+cntL ks
 |[],_,_=>Nat.le_refl _
 |k::ks,a,u=>by
  have h1:=frag_cnt k u
  have h2:=altG_cnt ks (altF a (fragT k u).1) (fragT k u).2
  rw[altG,cntL]
  omega
theorem headG_cnt:∀(ks:List Nd) (u:Nat),(headG ks u).2≤u+cntL ks
 |[],_=>Nat.le_refl _
 |k::ks,u=>by
  have h1:=frag_cnt k u
  rw[headG,cntL]
  omega
end
theorem joinN_cnt{op:Nat}(ho:op≠2):∀l:List Nd,cntN (joinN op l)≤cntL l
 |[]=>by
  show (if 1=2 then 1 else cntL [])≤_
  exact Nat.le_refl _
 |[t]=>Nat.le_add_right _ _
 |a::b::l=>by
  show (if op=2 then 1 else cntL (a::b::l))≤_
  rw[if_neg ho]
  exact Nat.le_refl _
section
variable {a u:Bytes}{k:Nat}
structure LiesIn(a u:Bytes)(k:Nat):Prop where
 same:∀i,i<a.length→at? u (k+i)=at? a i
 stop:at? u (k+a.length)=some 41
theorem LiesIn.some(s:LiesIn a u k){i c:Nat}(h:at? a i=some c):at? u (k+i)=some c:=by
 obtain⟨hp,_⟩:=at?_some h
 rw[s.same i hp,h]
theorem LiesIn.ne(s:LiesIn a u k){i c:Nat}(hi:i≤a.length)(hc:c≠41)(h:at? a i≠Option.some c):at? u (k+i)≠Option.some c:=by
 rcases Nat.lt_or_ge i a.length with h1|h1
 ·rw [s.same i h1]
  exact h
 ·obtain rfl : i = a.length := by omega
  rw[s.stop]
  intro hh
  cases hh
  exact hc rfl
theorem memB2_in(s:LiesIn a u k){i c j:Nat}(h:memB2 a i=.ok (c,j)):memB2 u (k+i)=.ok (c,k+j):=by
 unfold memB2 at h ⊢
 split at h
 ·cases h
 ·rename_i c' hc
  rw[s.some hc]
  dsimp only
  split at h
  ·rename_i h92
   rw[if_pos h92]
   split at h
   ·cases h
   ·rename_i e he
    have:=s.some he
    rw[←Nat.add_assoc] at this
    rw[this]
    cases h
    rfl
  ·rename_i h92
   rw[if_neg h92]
   split at h
   ·cases h
   ·rename_i hx
    rw[if_neg hx]
    cases h
    rfl
theorem memberF_in(s:LiesIn a u k){w w':List Nat}{i j:Nat}(h:memberF a w i=.ok (w',j)):memberF u w (k+i)=.ok (w',k+j):=by
 unfold memberF at h ⊢
 split at h
 ·cases h
 ·rename_i c j' h1
  obtain⟨_,_,hj⟩:=memB2_ok h1
  rw[memB2_in s h1]
  dsimp only
  split at h
  ·rename_i h45
   rw[if_pos (s.some h45)]
   split at h
   ·cases h
   ·rename_i e k' h4
    have:=memB2_in s h4
    rw[←Nat.add_assoc] at this
    rw[this]
    dsimp only
    split at h
    ·cases h
    ·rename_i hlt
     rw[if_neg hlt]
     cases h
     rfl
  ·rename_i h45
   rw[if_neg (s.ne hj (by decide) h45)]
   cases h
   rfl
theorem loopP_in(s:LiesIn a u k){w:List Nat}{j:Nat}{r:Except Nat (List Nat×Nat)}(x:LoopP a w j r):j≤a.length→∀w' j',r=.ok (w',j')→LoopP u w (k+j) (.ok (w',k+j')):=by
 induction x with
 |done n=>
  intro hj w' j' e
  cases e
  exact .done (s.some n)
 |bad n h=>
  intro hj w' j' e
  cases e
 |more n h m ih=>
  intro hj w' j' e
  obtain⟨b1,b2⟩:=memb_ok h
  exact .more (s.ne hj (by decide) n) (memberF_in s h) (ih b2 w' j' e)
theorem setB_in(s:LiesIn a u k){i:Nat}(hi:i≤a.length):setB u (k+i)=k+setB a i:=by
 unfold setB
 by_cases h94:at? a i=some 94
 ·rw [if_pos h94, if_pos (s.some h94)]
  rfl
 ·rw[if_neg h94,if_neg (s.ne hi (by decide) h94)]
theorem setP_in(s:LiesIn a u k){i j:Nat}{w:List Nat}(x:SetP a i (.ok (w,j)))(hi:i≤a.length):SetP u (k+i) (.ok (w,k+j)):=by
 obtain⟨s1,s2⟩:=setB_bnd hi
 generalize hr:Except.ok (w,j)=r at x
 cases x with
 |bad h=>cases hr
 | set h m =>
  rename_i w' j' r
  obtain⟨b1,b2⟩:=memb_ok h
  cases r with
  |error e'=>cases hr
  |ok wj=>
   obtain⟨w2,j2⟩:=wj
   cases hr
   have h2:=memberF_in s h
   rw[←setB_in s hi] at h2
   have h3:=SetP.set h2 (loopP_in s m b2 _ _ rfl)
   have h4:(at? u (k+i)=some 94)↔(at? a i=some 94):=⟨fun hh=>Classical.byContradiction fun hn=>s.ne hi (by decide) hn hh,fun hh=>s.some hh⟩
   unfold othersR at h3
   simp only[h4] at h3
   exact h3
end
section
variable {a u:Bytes}{k:Nat}
theorem stops_in(s:LiesIn a u k){i:Nat}(hi:i≤a.length)(h:stops a i):stops u (k+i):=by
 rcases h with h|h|h
 ·have := at?_none h hi
  subst this
  exact .inr (.inr s.stop)
 ·exact .inr (.inl (s.some h))
 ·exact .inr (.inr (s.some h))
theorem nstops_in(s:LiesIn a u k){i:Nat}(h:¬stops a i):¬stops u (k+i):=by
 have hlt:i<a.length:=by
  rcases Nat.lt_or_ge i a.length with h1|h1
  ·exact h1
  ·exact absurd (.inl (at?_ge h1)) h
 unfold stops at h ⊢
 rw[s.same i hlt]
 exact h
theorem signAt_in(s:LiesIn a u k){j:Nat}(hj:j≤a.length):signAt u (k+j)=signAt a j:=by
 unfold signAt
 rcases Nat.lt_or_ge j a.length with h1|h1
 ·rw[s.same j h1]
 ·obtain rfl : j = a.length := by omega
  rw[s.stop,at?_ge (Nat.le_refl _)]
  rfl
mutual
theorem altP_in(s:LiesIn a u k):∀{l:List Nd} {i:Nat} {r:Res},AltP a l i r→∀t j,r=.ok (t,j)→i≤a.length→AltP u l (k+i) (.ok (t,k+j))
 |_,_,_,.bad h,t,j,e,hi=>by cases e
 |_,_,_,.last h n,t,j,e,hi=>by
  obtain⟨_,b2⟩:=rowP_bnd h hi
  have h1:=rowP_in s h _ _ rfl hi
  cases e
  exact .last h1 (s.ne b2 (by decide) n)
 |_,_,_,.more h n m,t,j,e,hi=>by
  obtain⟨hp,_⟩:=at?_some n
  have h1:=rowP_in s h _ _ rfl hi
  have h2:=altP_in s m t j e (by omega)
  rw[←Nat.add_assoc] at h2
  exact .more h1 (s.some n) h2
termination_by structural _ _ _ x=>x
theorem rowP_in(s:LiesIn a u k):∀{l:List Nd} {i:Nat} {r:Res},RowP a l i r→∀t j,r=.ok (t,j)→i≤a.length→RowP u l (k+i) (.ok (t,k+j))
 |_,_,_,.stop h,t,j,e,hi=>by
  cases e
  exact .stop (stops_in s hi h)
 |_,_,_,.bad _ h,t,j,e,hi=>by cases e
 |_,_,_,.more n h m,t,j,e,hi=>by
  obtain⟨_,b2⟩:=partP_bnd h hi
  exact .more (nstops_in s n) (partP_in s h _ _ rfl hi) (rowP_in s m t j e b2)
termination_by structural _ _ _ x=>x
theorem partP_in(s:LiesIn a u k):∀{i:Nat} {r:Res},PartP a i r→∀t j,r=.ok (t,j)→i≤a.length→PartP u (k+i) (.ok (t,k+j))
 |_,_,.bad h,t,j,e,hi=>by cases e
 |_,_,.bare h n,t,j,e,hi=>by
  obtain⟨_,b2⟩:=atomP_bnd h hi
  have h1:=atomP_in s h _ _ rfl hi
  cases e
  exact .bare h1 (by rw[signAt_in s b2];exact n)
 |_,_,.sign h n,t,j,e,hi=>by
  obtain⟨_,b2⟩:=atomP_bnd h hi
  have h1:=atomP_in s h _ _ rfl hi
  cases e
  have h2:=PartP.sign h1 (by rw[signAt_in s b2];exact n)
  rw[signAt_in s b2] at h2
  exact h2
termination_by structural _ _ x=>x
theorem atomP_in(s:LiesIn a u k):∀{i:Nat} {r:Res},AtomP a i r→∀t j,r=.ok (t,j)→i≤a.length→AtomP u (k+i) (.ok (t,k+j))
 |_,_,.none _,t,j,e,hi=>by cases e
 |_,_,.open_bad h m,t,j,e,hi=>by cases e
 |_,_,.open_end h m _,t,j,e,hi=>by cases e
 |_,_,.group h m n,t,j,e,hi=>by
  obtain⟨hp,_⟩:=at?_some h
  have h1:=altP_in s m _ _ rfl (by omega)
  rw[←Nat.add_assoc] at h1
  cases e
  exact .group (s.some h) h1 (s.some n)
 |_,_,.any h,t,j,e,hi=>by
  cases e
  exact .any (s.some h)
 |_,_,.set_bad h m,t,j,e,hi=>by cases e
 |_,_,.set h m,t,j,e,hi=>by
  obtain⟨hp,_⟩:=at?_some h
  have h1:=setP_in s m (by omega)
  rw[←Nat.add_assoc] at h1
  cases e
  exact .set (s.some h) h1
 |_,_,.sl_end h _,t,j,e,hi=>by cases e
 |_,_,.sl h n,t,j,e,hi=>by
  have h1:=s.some n
  rw[←Nat.add_assoc] at h1
  cases e
  exact .sl (s.some h) h1
 |_,_,.bad h _,t,j,e,hi=>by cases e
 |_,_,.one h b n,t,j,e,hi=>by
  cases e
  exact .one (s.some h) b n
termination_by structural _ _ x=>x
end
end
theorem cntL_snoc:∀(l:List Nd) (t:Nd),cntL (l++[t])=cntL l+cntN t
 |[],t=>by
  show cntN t+cntL []=cntL []+cntN t
  exact Nat.add_comm _ _
 |k::l,t=>by
  rw[List.cons_append,cntL,cntL,cntL_snoc l t,Nat.add_assoc]
theorem over_cnt{op:Nat}(ho:op≠2)(t:Nd):cntN (overN op [t])=cntN t:=by
 show (if op=2 then 1 else cntL [t])=_
 rw[if_neg ho]
 exact Nat.add_zero _
theorem sign_ne2(u:Bytes)(j:Nat):signAt u j≠2:=by
 unfold signAt
 split
 ·unfold signOp
  split<;>decide
 ·decide
section
variable {a:Bytes}
mutual
theorem altP_cnt:∀{l:List Nd} {i:Nat} {r:Res},AltP a l i r→∀t j,r=.ok (t,j)→i≤a.length→cntN t≤cntL l+(j - i)
 |_,_,_,.bad _,_,_,e,_=>by cases e
 |l,_,_,.last h _,t,j,e,hi=>by
  cases e
  have h1:=rowP_cnt h _ _ rfl hi
  refine Nat.le_trans (joinN_cnt (by decide) _) ?_
  rw[cntL_snoc]
  rw[cntL] at h1
  omega
 |_,_,_,.more h n m,t,j,e,hi=>by
  have h1:=rowP_cnt h _ _ rfl hi
  have b1:=rowP_bnd h hi
  have hn:=at?_some n
  obtain⟨hn,_⟩:=hn
  have h3:=altP_cnt m t j e (by omega)
  have b2:=altP_bnd m (by omega)
  subst e
  rw[cntL_snoc] at h3
  rw[cntL] at h1
  have b1':_≤_∧_≤_:=b1
  have b2':_≤_∧_≤_:=b2
  omega
termination_by structural _ _ _ x=>x
theorem rowP_cnt:∀{l:List Nd} {i:Nat} {r:Res},RowP a l i r→∀t j,r=.ok (t,j)→i≤a.length→cntN t≤cntL l+(j - i)
 |l,_,_,.stop _,t,j,e,_=>by
  cases e
  exact Nat.le_trans (joinN_cnt (by decide) l) (Nat.le_add_right _ _)
 |_,_,_,.bad _ _,_,_,e,_=>by cases e
 |_,_,_,.more _ h m,t,j,e,hi=>by
  have h1:=partP_cnt h _ _ rfl hi
  have b1:=partP_bnd h hi
  have b1':_≤_∧_≤_:=⟨Nat.le_of_lt b1.1,b1.2⟩
  have h3:=rowP_cnt m t j e b1'.2
  have b2:=rowP_bnd m b1'.2
  subst e
  rw[cntL_snoc] at h3
  have b2':_≤_∧_≤_:=b2
  omega
termination_by structural _ _ _ x=>x
theorem partP_cnt:∀{i:Nat} {r:Res},PartP a i r→∀t j,r=.ok (t,j)→i≤a.length→cntN t≤j - i
 |_,_,.bad _,_,_,e,_=>by cases e
 |_,_,.bare h _,t,j,e,hi=>atomP_cnt h t j e hi
 |_,_,.sign h _,t,j,e,hi=>by
  cases e
  rw[over_cnt (sign_ne2 _ _)]
  have:=atomP_cnt h _ _ rfl hi
  omega
termination_by structural _ _ x=>x
theorem atomP_cnt:∀{i:Nat} {r:Res},AtomP a i r→∀t j,r=.ok (t,j)→i≤a.length→cntN t≤j - i
 |_,_,.none _,_,_,e,_=>by cases e
 |_,_,.open_bad _ _,_,_,e,_=>by cases e
 |_,_,.open_end _ _ _,_,_,e,_=>by cases e
 |_,_,.group h m _,t,j,e,hi=>by
  cases e
  obtain⟨hn,_⟩:=at?_some h
  have h1:=altP_cnt m _ _ rfl (by omega)
  rw[cntL] at h1
  omega
 |i,_,.any _,t,j,e,_=>by
  cases e
  show 1≤i+1 - i
  omega
 |_,_,.set_bad _ _,_,_,e,_=>by cases e
 |i,_,.set h m,t,j,e,hi=>by
  cases e
  obtain⟨hn,_⟩:=at?_some h
  have:=setP_okb m (by omega)
  show 1≤_ - i
  omega
 |_,_,.sl_end _ _,_,_,e,_=>by cases e
 |i,_,.sl _ _,t,j,e,_=>by
  cases e
  show 1≤i+2 - i
  omega
 |_,_,.bad _ _,_,_,e,_=>by cases e
 |i,_,.one _ _ _,t,j,e,_=>by
  cases e
  show 1≤i+1 - i
  omega
termination_by structural _ _ x=>x
end
end
def exT:Nd:=.mk 3 zeroW [.mk 6 zeroW [oneN 97],oneN 98]
abbrev exU:Bytes:=[97,43,98]
set_option maxRecDepth 100000 in
theorem ex_dead:deadN (netOf exT) (stepN (netOf exT) (false,0) 98)=true:=by kernel_rfl
set_option maxRecDepth 100000 in
theorem ex_dead0:deadN (netOf exT) (false,0)=false:=by kernel_rfl
set_option maxRecDepth 100000 in
theorem ex_done0:doneN (netOf exT) (false,0)=false:=by kernel_rfl
set_option maxRecDepth 100000 in
theorem ex_aab:matchN (netOf exT) [97,97,98]=true:=by kernel_rfl
set_option maxRecDepth 100000 in
theorem ex_b:matchN (netOf exT) [98]=false:=by kernel_rfl
theorem exStop0:¬stops exU 0:=by unfold stops;decide
theorem exStop2:¬stops exU 2:=by unfold stops;decide
theorem ex_part0:PartP exU 0 (.ok (.mk 6 zeroW [oneN 97],2)):=PartP.sign (i:=0) (j:=1) (t:=oneN 97) (.one (c:=97) rfl (by unfold badAtom;decide) (by decide)) (by decide)
theorem ex_part2:PartP exU 2 (.ok (oneN 98,3)):=PartP.bare (.one (c:=98) rfl (by unfold badAtom;decide) (by decide)) rfl
theorem ex_row:RowP exU [] 0 (.ok (exT,3)):=.more exStop0 ex_part0 (.more exStop2 ex_part2 (RowP.stop (l:=[.mk 6 zeroW [oneN 97],oneN 98]) (i:=3) (.inl rfl)))
theorem ex_alt:AltP exU [] 0 (.ok (exT,3)):=AltP.last (l:=[]) (t:=exT) ex_row (by decide)
theorem ex_tree{r:Except Nat Nd}(h:TreeP exU 3 r):r=.ok exT:=by
 generalize hk:(3:Int)=k at h
 cases h with
 |lit a=>cases hk
 |glob a=>cases hk
 |re_bad a=>cases altP_one a ex_alt
 |re_end a n=>
  cases altP_one a ex_alt
  exact absurd rfl n
 |re a=>
  cases altP_one a ex_alt
  rfl
theorem of_ex{n d:Nat}{h:AHeap}(hn:18446744073709551620<n)(hd:1000≤d)(hx:memB TNode h.ex=false):∃nb h',world n (d+1) 12 [.agg [.int .i64 3,strA exU]] h=some (.ret (.tup [.ptr nb 0,.int .i64 0]),h')∧Abs.Mem [] h h' [(nb,TNet,netC (netOf exT))]:=by
 obtain⟨D,rfl⟩:∃D,d=D+3:=⟨d - 3,by omega⟩
 obtain⟨r,r1,_,r3⟩:=(tree_kinds (u:=exU) (by decide) (.inr (.inr rfl))).2 (by decide)
 obtain rfl:=ex_tree r1
 exact of_ok (treeP_oneK r1) (by have:=treeP_small r1;have:exU.length=3:=rfl;omega) (by have:=treeP_small r1;have:exU.length=3:=rfl;omega) hn (fun h hx=>r3 (by omega) (by omega) hx) hx
theorem works_w{n d:Nat}{h:AHeap}(hn:18446744073709551620<n)(hd:1000≤d)(hT:HasTz h)(hx:memB TNode h.ex=false):world n (d+2) 11 [] h=some (.ret (.bool true),h):=by
 apply Wp.eq
 rw[w_law10_works]
 refine Wp.gc ?_
 suffices hK:Wp (law10_works (world n (d+1)) n h) fun r h'=>r=.ret (.bool true)∧Tch [] h h' from hK.mono fun r h' ⟨e,t⟩=>⟨t.above,by rw[e];rfl,e,rfl⟩
 obtain⟨D,rfl⟩:∃D,d=D+3:=⟨d - 3,by omega⟩
 unfold law10_works
 obtain⟨nb,h1,e1,M1⟩:=of_ex hn hd hx
 have hN:=netOf_ok exT
 refine Wp.callN e1 ?_
 repeat(first|(with_reducible first|refine Wp.join1 (fun _ _=>?_)|refine Wp.lett ?_|(apply Wp.obind;first|exact avInt_int _ _|exact avBool_bool _|exact extT_0 _ _|exact extT_1 _ _ _))|((with_reducible refine Wp.iff ?_ ?_);first|(with_reducible rfl)|((with_reducible apply bne_f);omega))|(with_reducible first|(apply Wp.outK;exact eqNet _ _ _)|refine Wp.go1 (by assumption) ?_))
 obtain⟨h2,e2,M2⟩:=begin_m (n:=n) (d:=D+3) (nb:=nb) M1
 refine Wp.callN e2 ?_
 have d0:=done_w (n:=n) (d:=D+2) hN (show ((false,0):Bool×Nat).2 <_ by decide) M2.at0.1 M2.at1.1
 rw[ex_done0] at d0
 have d1:=dead_w (n:=n) (d:=D+2) M2.at0.1 M2.at1.1
 rw[ex_dead0] at d1
 repeat(with_reducible first|refine Wp.join1 (fun _ _=>?_)|(apply Wp.obind;exact avBool_bool _)|(refine Wp.iff ?_ ?_;rfl)|(apply Wp.callN;first|exact d0|exact d1)|(apply Wp.outK;exact eqRun _ _ _)|refine Wp.go1 (by assumption) ?_)
 have hne:h1.next≠nb:=fun e=>by
  have:=M1.at0.2.1
  omega
 obtain⟨h3,e3,k3,t3⟩:=step_r (n:=n) (d:=D+1) (c:=98) (hT.tch M2.tch (by simp)) hN (show ((false,0):Bool×Nat).2 <_ by decide) (by omega) hne (by decide) M2.at0.1 M2.at1.1 M2.at1.2.1
 refine Wp.callN e3 ?_
 have M3:=Mem.upd (xs:=[]) M2 t3 k3
 simp only[List.nil_append] at M3
 have d2:=dead_w (n:=n) (d:=D+2) M3.at0.1 M3.at1.1
 rw[ex_dead] at d2
 repeat(with_reducible first|refine Wp.join1 (fun _ _=>?_)|(apply Wp.obind;exact avBool_bool _)|(refine Wp.ift ?_ ?_;rfl)|(apply Wp.callN;exact d2))
 obtain⟨h4,e4,t4⟩:=match_r (n:=n) (d:=D) (s:=[97,97,98]) (hT.tch M3.tch (by simp)) hN (by omega) (by decide) M3.at1.1 M3.at1.2.1
 rw[ex_aab] at e4
 refine Wp.callN e4 ?_
 have M4:=M3.keep t4
 repeat(with_reducible first|refine Wp.join1 (fun _ _=>?_)|(apply Wp.obind;exact avBool_bool _)|(refine Wp.ift ?_ ?_;rfl)|refine Wp.go1 (by assumption) ?_)
 obtain⟨h5,e5,t5⟩:=match_r (n:=n) (d:=D) (s:=[98]) (hT.tch M4.tch (by simp)) hN (by omega) (by decide) M4.at1.1 M4.at1.2.1
 rw[ex_b] at e5
 refine Wp.callN e5 ?_
 repeat(with_reducible first|refine Wp.lett ?_|(apply Wp.obind;exact avBool_bool _)|refine Wp.go1 (by assumption) ?_)
 exact Wp.ret ⟨rfl,(M4.keep t5).tch⟩
set_option maxRecDepth 100000 in
theorem pat_of{N:Nat}{h:AHeap}{x:AV}(hp:ArgP Tryd.prog N h 12 23 x):∃(k:Int) (u:Bytes),x=.agg [.int .i64 k,strA u]∧u.length≤reachBytes:=by
 obtain⟨l,rfl,hpl⟩:=hp.agg (by kernel_rfl)
 obtain⟨y1,y2,rfl,p1,p2⟩:=hpl.struct2 Tryd.underlying23
 obtain⟨k,rfl,_⟩:=p1.int Tryd.underlying3
 obtain⟨u,rfl,hu⟩:=p2.str Tryd.underlying9
 exact⟨k,u,rfl,hu⟩
abbrev tzI64:List Int:=[0,1,56,2,57,49,28,3,61,58,42,50,38,29,17,4,62,47,59,36,45,43,51,22,53,39,33,30,24,18,12,5,63,55,48,27,60,41,37,16,46,35,44,21,52,32,23,11,54,26,40,15,34,20,31,10,25,14,19,9,13,8,7,6]
theorem tzC_ints:tzC=tzI64.map fun z=>AV.int .u8 z:=by kernel_rfl
noncomputable def tzG:Tabs:=[(0,tzI64.map fun z=>AV.int .u8 z)]
theorem tz_of{h:AHeap}{X:List Nat}{G:Nat}(hG:0<G)(k:Keeps (startG tzG X G) h):HasTz h:=
 ⟨k.2.2 _ _ (by show (tabTree tzG).get _=_;unfold tzG tabTree;rw[T.get_set_same,tzC_ints]),Nat.lt_of_lt_of_le hG k.1⟩
open Go.RowKit Abs
section
variable {a b:Bytes}{x y:Nd}
theorem re_cnt(h:AltP a [] 0 (.ok (x,a.length))):cntN x≤a.length:=by
 have:=altP_cnt h _ _ rfl (Nat.zero_le _)
 rw[cntL] at this
 omega
theorem small_of{t:Nd}(h:cntN t≤64):(fragT t 0).2≤64:=by
 have:=frag_cnt t 0
 omega
end
abbrev TBo:Nat:=4
theorem Plus.snoc{P:List Nat→Prop}{a b:List Nat}(h:Plus P a)(hb:P b):Plus P (a++b):=by
 induction h with
 |one h=>exact .more h (.one hb)
 |more h _ ih=>
  rw[List.append_assoc]
  exact .more h ih
theorem Plus.last{P:List Nat→Prop}{s:List Nat}(h:Plus P s):s≠[]→∃s1 s2,s=s1++s2∧P s2∧s2≠[]∧(s1=[]∨Plus P s1):=by
 induction h with
 | @one s h=>exact fun hn=>⟨[],s,rfl,h,hn,.inl rfl⟩
 | @more s t h m ih =>
  intro hn
  by_cases ht:t=[]
  ·subst ht
   rw[List.append_nil] at hn ⊢
   exact⟨[],s,rfl,h,hn,.inl rfl⟩
  ·obtain ⟨t1, t2, rfl, h2, hn2, h3⟩ := ih ht
   refine⟨s++t1,t2,(List.append_assoc _ _ _).symm,h2,hn2,.inr ?_⟩
   rcases h3 with rfl|h3
   ·rw [List.append_nil]
    exact .one h
   ·exact .more h h3
section
variable {x:Nd}{s:Bytes}
theorem bool_ext{a b:Bool}(h:a=true↔b=true):a=b:=by
 cases a<;>cases b<;>simp_all
end
noncomputable def bl(m:Nat)(f:Nat→Bool):List AV:=(List.range m).map fun j=>.bool (f j)
theorem bl_len(m:Nat)(f:Nat→Bool):(bl m f).length=m:=by simp[bl]
theorem bl_one(m:Nat)(f:Nat→Bool):(bl m f).all AV.one=true:=by
 simp only[bl,List.all_map,List.all_eq_true]
 intro x _
 rfl
theorem bl_get{m j:Nat}(h:j<m)(f:Nat→Bool):(bl m f)[j]? =some (.bool (f j)):=by
 unfold bl
 rw[List.getElem?_map,List.getElem?_range h]
 rfl
theorem bl_set{m i:Nat}{f g:Nat→Bool}{b:Bool}(hb:g i=b)(hf:∀j,j≠i→f j=g j):(bl m f).set i (.bool b)=bl m g:=by
 refine List.ext_getElem? fun j=>?_
 rw[List.getElem?_set]
 by_cases hj:i=j
 ·subst hj
  by_cases hm:i<m
  ·rw[if_pos rfl,if_pos (by rw[bl_len];exact hm),bl_get hm,hb]
  ·rw[if_pos rfl,if_neg (by rw[bl_len];exact hm),List.getElem?_eq_none (by rw[bl_len];omega)]
 ·rw [if_neg hj]
  unfold bl
  rw[List.getElem?_map,List.getElem?_map]
  cases hr:(List.range m)[j]? with
  |none=>rfl
  |some y=>
   obtain⟨_,rfl⟩:=List.getElem?_eq_some_iff.1 hr
   rw[List.getElem_range,Option.map_some,Option.map_some,hf j (fun h=>hj h.symm)]
theorem bl_ext{m:Nat}{f g:Nat→Bool}(h:∀j,f j=g j):bl m f=bl m g:=by rw[show f=g from funext h]
theorem bl_none(m:Nat):List.replicate m (AV.bool false)=bl m (fun _=>false):=by
 refine List.ext_getElem? fun j=>?_
 by_cases hj:j<m
 ·rw[bl_get hj,List.getElem?_replicate,if_pos hj]
 ·rw[List.getElem?_eq_none (by rw[List.length_replicate];omega),List.getElem?_eq_none (by rw[bl_len];omega)]
theorem idx_sl{b m i:Nat}(h:i<m):idxP 1 (.sl b 0 m 1) (i:Int)=some (.ptr b i):=by
 have e:Nat.blt i m=true:=by simpa using h
 show (match Nat.blt i m with|true=>some (AV.ptr b (0+i*1))|false=>none)=_
 rw[e,Nat.zero_add,Nat.mul_one]
open Go.RowKit Abs
set_option maxHeartbeats 4000000
set_option maxRecDepth 20000
noncomputable def ref10_Ends_L2b(call:CallF)(t1:Bytes)(t2:AV)(v3:AV)(k86:AV→AHeap→R)(self:AV→Int→AHeap→R)(t7_90:AV)(t10:Int)(h_91:AHeap):R:=
 obind (fldP 5 v3) fun t63=>
 obind (ldCell h_91 t63) fun v64=>
 obind (lenL v64) fun t65=>
 lett (decide (t10<t65)) fun (t66:Bool)=>
 ifB t66
 (
  obind (fldP 5 v3) fun t70=>
  obind (ldCell h_91 t70) fun v71=>
  obind (idxP 6 v71 t10) fun t73=>
  obind (ldRow h_91 6 t73) fun t74=>
  callN (call 31 [.agg t74,strA t1,t2] h_91) fun r77 h_104=>
  callN (call 48 [t7_90,r77] h_104) fun r78 h_106=>
  lett (IntKind.i64.wrap (t10+1)) fun (t68:Int)=>
  self r78 t68 h_106)
 (
  k86 t7_90 h_91)
noncomputable def ref10_Ends_L2(call:CallF)(t1:Bytes)(t2:AV)(v3:AV)(k86:AV→AHeap→R):Nat→AV→Int→AHeap→R:=iterR (fun _ _ _=>none) (ref10_Ends_L2b call t1 t2 v3 k86)
theorem ref10_Ends_L2_s(call:CallF)(t1:Bytes)(t2:AV)(v3:AV)(k86:AV→AHeap→R)(m:Nat):ref10_Ends_L2 call t1 t2 v3 k86 (m+1)=ref10_Ends_L2b call t1 t2 v3 k86 (ref10_Ends_L2 call t1 t2 v3 k86 m):=rfl
noncomputable def ref10_Ends_L1b(call:CallF)(t1:Bytes)(v3:AV)(k58:AV→AHeap→R)(self:AV→Int→AHeap→R)(t7_62:AV)(t9:Int)(h_63:AHeap):R:=
 obind (fldP 5 v3) fun t46=>
 obind (ldCell h_63 t46) fun v47=>
 obind (lenL v47) fun t48=>
 lett (decide (t9<t48)) fun (t49:Bool)=>
 ifB t49
 (
  obind (fldP 5 v3) fun t52=>
  obind (ldCell h_63 t52) fun v53=>
  obind (idxP 6 v53 t9) fun t55=>
  obind (ldRow h_63 6 t55) fun t56=>
  callN (call 31 [.agg t56,strA t1,t7_62] h_63) fun r59 h_76=>
  lett (IntKind.i64.wrap (t9+1)) fun (t51:Int)=>
  self r59 t51 h_76)
 (
  k58 t7_62 h_63)
noncomputable def ref10_Ends_L1(call:CallF)(t1:Bytes)(v3:AV)(k58:AV→AHeap→R):Nat→AV→Int→AHeap→R:=iterR (fun _ _ _=>none) (ref10_Ends_L1b call t1 v3 k58)
theorem ref10_Ends_L1_s(call:CallF)(t1:Bytes)(v3:AV)(k58:AV→AHeap→R)(m:Nat):ref10_Ends_L1 call t1 v3 k58 (m+1)=ref10_Ends_L1b call t1 v3 k58 (ref10_Ends_L1 call t1 v3 k58 m):=rfl
noncomputable def ref10_Ends_L0b(call:CallF)(t1:Bytes)(t2:AV)(v3:AV)(v14:AV)(k21:AHeap→R)(self:Int→AHeap→R)(t8:Int)(h_24:AHeap):R:=
 lett (decide (t8<(lenS t1))) fun (t23:Bool)=>
 ifB t23
 (
  lett (fun (h_31:AHeap)=>
   lett (IntKind.i64.wrap (t8+1)) fun (t25:Int)=>
   self t25 h_31) fun k30=>
  lett (IntKind.i64.wrap (t8+1)) fun (t28:Int)=>
  obind (idxP 1 t2 t8) fun t31=>
  obind (ldCell h_24 t31) fun v32=>
  obind (avBool v32) fun t32=>
  ifB t32
  (
   obind (fldP 1 v3) fun t34=>
   obind (ldRow h_24 4 t34) fun t35=>
   obind (idxS t1 t8) fun t38=>
   callN (call 47 [.agg t35,.int .u8 t38] h_24) fun r39 h_40=>
   obind (avBool r39) fun t39=>
   obind (idxP 1 v14 t28) fun t41=>
   obind (stRow h_40 1 [.bool t39] t41) fun h_44=>
   k30 h_44)
  (
   obind (idxP 1 v14 t28) fun t41_46=>
   obind (stRow h_24 1 [.bool false] t41_46) fun h_48=>
   k30 h_48))
 (
  k21 h_24)
noncomputable def ref10_Ends_L0(call:CallF)(t1:Bytes)(t2:AV)(v3:AV)(v14:AV)(k21:AHeap→R):Nat→Int→AHeap→R:=iterR (fun _ _=>none) (ref10_Ends_L0b call t1 t2 v3 v14 k21)
theorem ref10_Ends_L0_s(call:CallF)(t1:Bytes)(t2:AV)(v3:AV)(v14:AV)(k21:AHeap→R)(m:Nat):ref10_Ends_L0 call t1 t2 v3 v14 k21 (m+1)=ref10_Ends_L0b call t1 t2 v3 v14 k21 (ref10_Ends_L0 call t1 t2 v3 v14 k21 m):=rfl
noncomputable def ref10_Ends(call:CallF)(n:Nat)(t0:List AV)(t1:Bytes)(t2:AV)(h:AHeap):R:=
 outK (opBox h 34 (some (.agg t0))) fun v3 h_2=>
 lett (IntKind.i64.wrap ((lenS t1)+1)) fun (t13:Int)=>
 outK (opMakeSlice Pg h_2 50 (some (.int .i64 t13)) (some (.int .i64 t13))) fun v14 h_6=>
 obind (fldP 0 v3) fun t15=>
 obind (ldCell h_6 t15) fun v16=>
 obind (avInt .i64 v16) fun t16=>
 lett ((t16:Int) == 2) fun (t19:Bool)=>
 lett (fun (t7:AV) (h_17:AHeap)=>
  some (.ret (t7),h_17)) fun k16=>
 ifB t19
 (
  lett (fun (h_22:AHeap)=>
   k16 v14 h_22) fun k21=>
  ref10_Ends_L0 call t1 t2 v3 v14 k21 n 0 h_6)
 (
  lett ((t16:Int) == 3) fun (t43:Bool)=>
  lett (fun (t7_53:AV) (h_54:AHeap)=>
   k16 t7_53 h_54) fun k52=>
  ifB t43
  (
   lett (fun (t7_59:AV) (h_60:AHeap)=>
    k52 t7_59 h_60) fun k58=>
   ref10_Ends_L1 call t1 v3 k58 n t2 0 h_6)
  (
   lett ((t16:Int) == 4) fun (t61:Bool)=>
   lett (fun (t7_82:AV) (h_83:AHeap)=>
    k52 t7_82 h_83) fun k81=>
   ifB t61
   (
    lett (fun (t7_87:AV) (h_88:AHeap)=>
     k81 t7_87 h_88) fun k86=>
    ref10_Ends_L2 call t1 t2 v3 k86 n v14 0 h_6)
   (
    lett ((t16:Int) == 7) fun (t80:Bool)=>
    lett (fun (t7_112:AV) (h_113:AHeap)=>
     k81 t7_112 h_113) fun k111=>
    ifB t80
    (
     obind (fldP 5 v3) fun t82=>
     obind (ldCell h_6 t82) fun v83=>
     obind (idxP 6 v83 0) fun t84=>
     obind (ldRow h_6 6 t84) fun t85=>
     callN (call 31 [.agg t85,strA t1,t2] h_6) fun r88 h_118=>
     callN (call 48 [t2,r88] h_118) fun r89 h_120=>
     k111 r89 h_120)
    (
     lett ((t16:Int) == 5) fun (t91:Bool)=>
     lett (fun (t7_125:AV) (h_126:AHeap)=>
      k111 t7_125 h_126) fun k124=>
     ifB t91
     (
      obind (fldP 5 v3) fun t92=>
      obind (ldCell h_6 t92) fun v93=>
      obind (idxP 6 v93 0) fun t94=>
      obind (ldRow h_6 6 t94) fun t95=>
      callN (call 49 [.agg t95,strA t1,t2] h_6) fun r98 h_131=>
      k124 r98 h_131)
     (
      lett ((t16:Int) == 6) fun (t100:Bool)=>
      lett (fun (t7_136:AV) (h_137:AHeap)=>
       k124 t7_136 h_137) fun k135=>
      ifB t100
      (
       obind (fldP 5 v3) fun t101=>
       obind (ldCell h_6 t101) fun v102=>
       obind (idxP 6 v102 0) fun t103=>
       obind (ldRow h_6 6 t103) fun t104=>
       obind (fldP 5 v3) fun t106=>
       obind (ldCell h_6 t106) fun v107=>
       obind (idxP 6 v107 0) fun t108=>
       obind (ldRow h_6 6 t108) fun t109=>
       callN (call 31 [.agg t109,strA t1,t2] h_6) fun r112 h_146=>
       chk (true&&(true&&(reLoad Pg h_146 34 t103 (.agg t104)&&(reLoad Pg h_146 32 t101 v102&&true))))<|
       callN (call 49 [.agg t104,strA t1,r112] h_146) fun r113 h_149=>
       k135 r113 h_149)
      (
       k135 t2 h_6))))))
theorem ref10_Ends_ok{call:CallF}(hc:SaysAll Pg call){n:Nat}{t0:List AV}{t1:Bytes}{t2:AV}{h:AHeap}{rR:ARes}{hR:AHeap}(z:ref10_Ends call n t0 t1 t2 h=some (rR,hR)):Says Pg 31 [.agg t0,strA t1,t2] h rR hR:=by
 unfold ref10_Ends at z
 refine sO Tryd.func31 fun w0 m0=>?_
 refine wW [(0,.agg t0),(1,strA t1),(2,t2)] ?_
 refine oG fun n1=>W.r ?_
 refine oK 3 z fun v3 h_2 z=>?_
 refine oA 6 AV.nsl ?_
 refine oV [(1,strA t1),(2,t2),(3,v3)] (n1 ?_)
 refine oG fun n4=>W.r ?_
 refine oA 11 (strA t1) ?_
 refine oA 12 (.int .i64 (lenS t1)) ?_
 refine oI 13 .i64 z fun t13 z=>?_
 refine oK 14 z fun v14 h_6 z=>?_
 refine oA 7 v14 ?_
 refine oV [(1,strA t1),(2,t2),(3,v3),(7,v14)] (n4 ?_)
 refine oG fun n8=>?_
 refine oG fun n9=>W.r ?_
 refine oF 15 34 0 z fun t15 z=>?_
 refine oLi 16 3 z fun t16 z=>?_
 refine oV [(1,strA t1),(2,t2),(3,v3),(7,v14),(16,.int .i64 t16)] (n9 ?_)
 refine W.blockK (by kernel_rfl) (fun K13 n13 s13 o13 q13 p13=>?_)
 refine oG fun n14=>W.r ?_
 refine oB 19 z fun t19 z=>?_
 refine oA 18 (.bool t19) ?_
 refine oV [(1,strA t1),(2,t2),(3,v3),(7,v14),(16,.int .i64 t16),(18,.bool t19)] (n14 ?_)
 obtain⟨k16,e16,z⟩:=lS z
 have J16:∀(t7:AV) (h_17:AHeap),k16 t7 h_17=some (rR,hR)→Go w0 m0 (Func.ntmps Tryd.f31) (K13 .normal) [(7,t7)] [] h_17:=by
  intro t7 h_17 z
  rw[e16] at z
  refine n13 (n8 ?_)
  refine oG fun n18=>W.r ?_
  refine oA 114 t7 ?_
  refine oA 6 t7 ?_
  refine oV [(6,t7)] (n18 (oY ?_))
  exact lZ z [.tmp 6] [t7] (rT res_nil)
 cases t19 with
 | true =>
  refine oT z fun z=>?_
  refine oG fun n19=>W.r ?_
  refine oA 8 (.int .i64 0) ?_
  refine oV [(1,strA t1),(2,t2),(3,v3),(7,v14),(8,.int .i64 0)] (n19 ?_)
  obtain⟨k21,e21,z⟩:=lS z
  have J21:∀(h_22:AHeap),k21 h_22=some (rR,hR)→Go w0 m0 (Func.ntmps Tryd.f31) (K13 .normal) [(7,v14)] [] h_22:=by
   intro h_22 z
   rw[e21] at z
   exact gW _ (J16 _ _ z)
  refine W.blockK (by kernel_rfl) (fun K20 n20 s20 o20 q20 p20=>?_)
  refine W.loopK (by kernel_rfl) (fun I23 K23 b23 n23 e23 q23 p23=>?_)
  have L23:∀(m:Nat) (t8:Int) (h_24:AHeap),ref10_Ends_L0 call t1 t2 v3 v14 k21 m t8 h_24=some (rR,hR)→Go w0 m0 (Func.ntmps Tryd.f31) I23 [(1,strA t1),(2,t2),(3,v3),(7,v14),(8,.int .i64 t8)] [] h_24:=by
   intro m
   induction m with
   |zero=>intro t8 h_24 z;cases z
   | succ m ih23 =>
    intro t8 h_24 z
    rw[ref10_Ends_L0_s] at z;unfold ref10_Ends_L0b at z
    refine b23 ?_
    refine W.s (fun _ n25 e25 _ _=>?_)
    refine oG fun n26=>W.r ?_
    refine oA 20 (.int .i64 t8) ?_
    refine oA 21 (strA t1) ?_
    refine oA 22 (.int .i64 (lenS t1)) ?_
    refine oB 23 z fun t23 z=>?_
    refine oV [(1,strA t1),(2,t2),(3,v3),(7,v14),(8,.int .i64 t8),(23,.bool t23)] (n26 ?_)
    cases t23 with
    | true =>
     refine oT z fun z=>?_
     refine oZ (n25 ?_)
     refine oG fun n28=>?_
     refine W.blockK (by kernel_rfl) (fun K29 n29 s29 o29 q29 p29=>?_)
     obtain⟨k30,e30,z⟩:=lS z
     have J30:∀(h_31:AHeap),k30 h_31=some (rR,hR)→Go w0 m0 (Func.ntmps Tryd.f31) (K29 .normal) [(1,strA t1),(2,t2),(3,v3),(7,v14),(8,.int .i64 t8)] [] h_31:=by
      intro h_31 z
      rw[e30] at z
      refine n29 (n28 (W.r ?_))
      refine oA 24 (.int .i64 t8) ?_
      refine oI 25 .i64 z fun t25 z=>?_
      refine oA 8 (.int .i64 t25) ?_
      refine oV [(1,strA t1),(2,t2),(3,v3),(7,v14),(8,.int .i64 t25)] (n23 ?_)
      exact gW _ (ih23 _ _ z)
     refine W.draw (by kernel_rfl) (hc.ok w0) (plan:=[0,1,2,3,4,5,6,7,8,9,10,11,12,13,14,15,16]) (by kernel_rfl) (by kernel_rfl) (by kernel_rfl) ?_
     refine WD.a 0 (some 26) v14 h_24 ?_
     refine WD.a 0 (some 27) (.int .i64 t8) h_24 ?_
     obtain⟨t28,e33,z⟩:=lS z
     refine WD.val (d:=(some 28)) (v:=.int .i64 t28) (h':=h_24) (by kernel_rfl) (by kernel_rfl) (val_of (AV.int .i64) e33 (by kernel_rfl)) (k:=0) (by kernel_rfl) (fun e=>absurd e (by decide)) (by decide) ?_
     refine WD.a 0 (some 29) t2 h_24 ?_
     refine WD.a 0 (some 30) (.int .i64 t8) h_24 ?_
     obtain⟨t31,e34,z⟩:=oS z
     refine WD.b 0 (some 31) t31 h_24 (index_row (P:=Pg) (h:=h_24) (t:=50) (e':=4) (k:=.i64) (by kernel_rfl) (by kernel_rfl) (by kernel_rfl) e34) ?_
     replace z:=oS z;obtain⟨v32,e35,z⟩:=z
     replace z:=oS z;obtain⟨t32,c36,z⟩:=z
     have c36:=avBool_some c36
     subst c36
     refine WD.b 1 (some 32) (.bool t32) h_24 (load_cell (P:=Pg) (h:=h_24) (t:=4) (by kernel_rfl) e35) ?_
     refine WD.a 0 (some 33) (.bool t32) h_24 ?_
     cases t32 with
     |true=>
      replace z:=ifB_t z
      obtain⟨t34,e37,z⟩:=oS z
      refine WD.b 0 (some 34) t34 h_24 (field_ptr (P:=Pg) (h:=h_24) (s:=34) (f:=1) (by kernel_rfl) e37) ?_
      obtain⟨t35,e38,z⟩:=oS z
      refine WD.b 1 (some 35) (.agg t35) h_24 (load_row (P:=Pg) (h:=h_24) (t:=31) (by kernel_rfl) (by kernel_rfl) e38) ?_
      refine WD.a 0 (some 36) (strA t1) h_24 ?_
      refine WD.a 0 (some 37) (.int .i64 t8) h_24 ?_
      obtain⟨t38,e39,z⟩:=oS z
      refine WD.b 0 (some 38) (.int .u8 t38) h_24 (index_str (P:=Pg) (h:=h_24) (t:=9) (k:=.i64) (by kernel_rfl) e39) ?_
      replace z:=callN_some z;obtain⟨r39,h_40,e41,z⟩:=z
      replace z:=oS z;obtain⟨t39,c42,z⟩:=z
      have c42:=avBool_some c42
      subst c42
      refine WD.call (d:=(some 39)) (by kernel_rfl) (by kernel_rfl) (by kernel_rfl) e41 (k:=2) (by kernel_rfl) (fun _=>(by kernel_rfl)) (by decide) ?_
      refine WD.a 0 (some 40) (.bool t39) h_40 ?_
      obtain⟨t41,e43,z⟩:=oS z
      refine WD.b 0 (some 41) t41 h_40 (index_row (P:=Pg) (h:=h_40) (t:=50) (e':=4) (k:=.i64) (by kernel_rfl) (by kernel_rfl) (by kernel_rfl) e43) ?_
      obtain⟨h_44,e45,z⟩:=oS z
      refine WD.eff (h':=h_44) (by kernel_rfl) (by kernel_rfl) (Eq.trans (by kernel_rfl) (store_row (P:=Pg) (h:=h_40) (t:=4) (v:=(.bool t39)) (by kernel_rfl) (by kernel_rfl) e45)) (k:=2) (by kernel_rfl) (fun _=>(by kernel_rfl)) (by decide) ?_
      refine WD.nil ?_
      exact gW _ (J30 _ z)
     |false=>
      replace z:=ifB_f z
      refine oD 0 (some 34) ?_
      refine oD 1 (some 35) ?_
      refine oD 0 (some 36) ?_
      refine oD 0 (some 37) ?_
      refine oD 0 (some 38) ?_
      refine WD.not (d:=(some 39)) (by kernel_rfl) (by kernel_rfl) (k:=2) (by kernel_rfl) (fun _=>(by kernel_rfl)) (by decide) ?_
      refine WD.a 0 (some 40) (.bool false) h_24 ?_
      obtain⟨t41_46,e47,z⟩:=oS z
      refine WD.b 0 (some 41) t41_46 h_24 (index_row (P:=Pg) (h:=h_24) (t:=50) (e':=4) (k:=.i64) (by kernel_rfl) (by kernel_rfl) (by kernel_rfl) e47) ?_
      obtain⟨h_48,e49,z⟩:=oS z
      refine WD.eff (h':=h_48) (by kernel_rfl) (by kernel_rfl) (Eq.trans (by kernel_rfl) (store_row (P:=Pg) (h:=h_24) (t:=4) (v:=(.bool false)) (by kernel_rfl) (by kernel_rfl) e49)) (k:=2) (by kernel_rfl) (fun _=>(by kernel_rfl)) (by decide) ?_
      refine WD.nil ?_
      exact gW _ (J30 _ z)
    |false=>
     refine oU z fun z=>?_
     refine W.exit (by kernel_rfl) ?_
     refine e25 (e23 ?_)
     refine s20 (by kernel_rfl) ?_
     exact gW _ (J21 _ z)
  exact gW _ (L23 _ _ _ z)
 | false =>
  refine oU z fun z=>?_
  refine oG fun n50=>W.r ?_
  refine oB 43 z fun t43 z=>?_
  refine oA 42 (.bool t43) ?_
  refine oV [(1,strA t1),(2,t2),(3,v3),(7,v14),(16,.int .i64 t16),(42,.bool t43)] (n50 ?_)
  obtain⟨k52,e52,z⟩:=lS z
  have J52:∀(t7_53:AV) (h_54:AHeap),k52 t7_53 h_54=some (rR,hR)→Go w0 m0 (Func.ntmps Tryd.f31) (K13 .normal) [(7,t7_53)] [] h_54:=by
   intro t7_53 h_54 z
   rw[e52] at z
   exact gW _ (J16 _ _ z)
  cases t43 with
  | true =>
   refine oT z fun z=>?_
   refine oG fun n55=>W.r ?_
   refine oA 44 t2 ?_
   refine oA 7 t2 ?_
   refine oV [(1,strA t1),(3,v3),(7,t2)] (n55 ?_)
   refine oG fun n56=>W.r ?_
   refine oA 9 (.int .i64 0) ?_
   refine oV [(1,strA t1),(3,v3),(7,t2),(9,.int .i64 0)] (n56 ?_)
   obtain⟨k58,e58,z⟩:=lS z
   have J58:∀(t7_59:AV) (h_60:AHeap),k58 t7_59 h_60=some (rR,hR)→Go w0 m0 (Func.ntmps Tryd.f31) (K13 .normal) [(7,t7_59)] [] h_60:=by
    intro t7_59 h_60 z
    rw[e58] at z
    exact gW _ (J52 _ _ z)
   refine W.blockK (by kernel_rfl) (fun K57 n57 s57 o57 q57 p57=>?_)
   refine W.loopK (by kernel_rfl) (fun I61 K61 b61 n61 e61 q61 p61=>?_)
   have L61:∀(m:Nat) (t7_62:AV) (t9:Int) (h_63:AHeap),ref10_Ends_L1 call t1 v3 k58 m t7_62 t9 h_63=some (rR,hR)→Go w0 m0 (Func.ntmps Tryd.f31) I61 [(1,strA t1),(3,v3),(7,t7_62),(9,.int .i64 t9)] [] h_63:=by
    intro m
    induction m with
    |zero=>intro t7_62 t9 h_63 z;cases z
    | succ m ih61 =>
     intro t7_62 t9 h_63 z
     rw[ref10_Ends_L1_s] at z;unfold ref10_Ends_L1b at z
     refine b61 ?_
     refine W.s (fun _ n64 e64 _ _=>?_)
     refine oG fun n65=>W.r ?_
     refine oA 45 (.int .i64 t9) ?_
     refine oF 46 34 2 z fun t46 z=>?_
     refine oL 47 32 z fun v47 z=>?_
     refine oM 48 32 34 z fun t48 z=>?_
     refine oB 49 z fun t49 z=>?_
     refine oV [(1,strA t1),(3,v3),(7,t7_62),(9,.int .i64 t9),(49,.bool t49)] (n65 ?_)
     cases t49 with
     |true=>
      refine oT z fun z=>?_
      refine oZ (n64 ?_)
      refine oG fun n70=>?_
      refine W.blockK (by kernel_rfl) (fun K71 n71 s71 o71 q71 p71=>?_)
      refine W.r ?_
      refine oF 52 34 2 z fun t52 z=>?_
      refine oL 53 32 z fun v53 z=>?_
      refine oA 54 (.int .i64 t9) ?_
      refine oP 55 32 34 .i64 z fun t55 z=>?_
      refine oR 56 34 z fun t56 z=>?_
      refine oA 57 (strA t1) ?_
      refine oA 58 t7_62 ?_
      refine oC hc (some 59) z fun r59 h_76 z=>?_
      refine oA 7 r59 ?_
      refine oV [(1,strA t1),(3,v3),(7,r59),(9,.int .i64 t9)] (n71 (n70 (W.r ?_)))
      refine oA 50 (.int .i64 t9) ?_
      refine oI 51 .i64 z fun t51 z=>?_
      refine oA 9 (.int .i64 t51) ?_
      refine oV [(1,strA t1),(3,v3),(7,r59),(9,.int .i64 t51)] (n61 ?_)
      exact gW _ (ih61 _ _ _ z)
     |false=>
      refine oU z fun z=>?_
      refine W.exit (by kernel_rfl) ?_
      refine e64 (e61 ?_)
      refine s57 (by kernel_rfl) ?_
      exact gW _ (J58 _ _ z)
   exact gW _ (L61 _ _ _ _ z)
  | false =>
   refine oU z fun z=>?_
   refine oG fun n79=>W.r ?_
   refine oB 61 z fun t61 z=>?_
   refine oA 60 (.bool t61) ?_
   refine oV [(1,strA t1),(2,t2),(3,v3),(7,v14),(16,.int .i64 t16),(60,.bool t61)] (n79 ?_)
   obtain⟨k81,e81,z⟩:=lS z
   have J81:∀(t7_82:AV) (h_83:AHeap),k81 t7_82 h_83=some (rR,hR)→Go w0 m0 (Func.ntmps Tryd.f31) (K13 .normal) [(7,t7_82)] [] h_83:=by
    intro t7_82 h_83 z
    rw[e81] at z
    exact gW _ (J52 _ _ z)
   cases t61 with
   | true =>
    refine oT z fun z=>?_
    refine oG fun n84=>W.r ?_
    refine oA 10 (.int .i64 0) ?_
    refine oV [(1,strA t1),(2,t2),(3,v3),(7,v14),(10,.int .i64 0)] (n84 ?_)
    obtain⟨k86,e86,z⟩:=lS z
    have J86:∀(t7_87:AV) (h_88:AHeap),k86 t7_87 h_88=some (rR,hR)→Go w0 m0 (Func.ntmps Tryd.f31) (K13 .normal) [(7,t7_87)] [] h_88:=by
     intro t7_87 h_88 z
     rw[e86] at z
     exact gW _ (J81 _ _ z)
    refine W.blockK (by kernel_rfl) (fun K85 n85 s85 o85 q85 p85=>?_)
    refine W.loopK (by kernel_rfl) (fun I89 K89 b89 n89 e89 q89 p89=>?_)
    have L89:∀(m:Nat) (t7_90:AV) (t10:Int) (h_91:AHeap),ref10_Ends_L2 call t1 t2 v3 k86 m t7_90 t10 h_91=some (rR,hR)→Go w0 m0 (Func.ntmps Tryd.f31) I89 [(1,strA t1),(2,t2),(3,v3),(7,t7_90),(10,.int .i64 t10)] [] h_91:=by
     intro m
     induction m with
     |zero=>intro t7_90 t10 h_91 z;cases z
     | succ m ih89 =>
      intro t7_90 t10 h_91 z
      rw[ref10_Ends_L2_s] at z;unfold ref10_Ends_L2b at z
      refine b89 ?_
      refine W.s (fun _ n92 e92 _ _=>?_)
      refine oG fun n93=>W.r ?_
      refine oA 62 (.int .i64 t10) ?_
      refine oF 63 34 2 z fun t63 z=>?_
      refine oL 64 32 z fun v64 z=>?_
      refine oM 65 32 34 z fun t65 z=>?_
      refine oB 66 z fun t66 z=>?_
      refine oV [(1,strA t1),(2,t2),(3,v3),(7,t7_90),(10,.int .i64 t10),(66,.bool t66)] (n93 ?_)
      cases t66 with
      |true=>
       refine oT z fun z=>?_
       refine oZ (n92 ?_)
       refine oG fun n98=>?_
       refine W.blockK (by kernel_rfl) (fun K99 n99 s99 o99 q99 p99=>?_)
       refine W.r ?_
       refine oA 69 t7_90 ?_
       refine oF 70 34 2 z fun t70 z=>?_
       refine oL 71 32 z fun v71 z=>?_
       refine oA 72 (.int .i64 t10) ?_
       refine oP 73 32 34 .i64 z fun t73 z=>?_
       refine oR 74 34 z fun t74 z=>?_
       refine oA 75 (strA t1) ?_
       refine oA 76 t2 ?_
       refine oC hc (some 77) z fun r77 h_104 z=>?_
       refine oC hc (some 78) z fun r78 h_106 z=>?_
       refine oA 7 r78 ?_
       refine oV [(1,strA t1),(2,t2),(3,v3),(7,r78),(10,.int .i64 t10)] (n99 (n98 (W.r ?_)))
       refine oA 67 (.int .i64 t10) ?_
       refine oI 68 .i64 z fun t68 z=>?_
       refine oA 10 (.int .i64 t68) ?_
       refine oV [(1,strA t1),(2,t2),(3,v3),(7,r78),(10,.int .i64 t68)] (n89 ?_)
       exact gW _ (ih89 _ _ _ z)
      |false=>
       refine oU z fun z=>?_
       refine W.exit (by kernel_rfl) ?_
       refine e92 (e89 ?_)
       refine s85 (by kernel_rfl) ?_
       exact gW _ (J86 _ _ z)
    exact gW _ (L89 _ _ _ _ z)
   | false =>
    refine oU z fun z=>?_
    refine oG fun n109=>W.r ?_
    refine oB 80 z fun t80 z=>?_
    refine oA 79 (.bool t80) ?_
    refine oV [(1,strA t1),(2,t2),(3,v3),(16,.int .i64 t16),(79,.bool t80)] (n109 ?_)
    obtain⟨k111,e111,z⟩:=lS z
    have J111:∀(t7_112:AV) (h_113:AHeap),k111 t7_112 h_113=some (rR,hR)→Go w0 m0 (Func.ntmps Tryd.f31) (K13 .normal) [(7,t7_112)] [] h_113:=by
     intro t7_112 h_113 z
     rw[e111] at z
     exact gW _ (J81 _ _ z)
    cases t80 with
    |true=>
     refine oT z fun z=>?_
     refine W.r ?_
     refine oA 81 t2 ?_
     refine oF 82 34 2 z fun t82 z=>?_
     refine oL 83 32 z fun v83 z=>?_
     refine oP 84 32 34 .i64 z fun t84 z=>?_
     refine oR 85 34 z fun t85 z=>?_
     refine oA 86 (strA t1) ?_
     refine oA 87 t2 ?_
     refine oC hc (some 88) z fun r88 h_118 z=>?_
     refine oC hc (some 89) z fun r89 h_120 z=>?_
     refine oA 7 r89 ?_
     refine oV [(7,r89)] ?_
     exact gW _ (J111 _ _ z)
    | false =>
     refine oU z fun z=>?_
     refine oG fun n122=>W.r ?_
     refine oB 91 z fun t91 z=>?_
     refine oA 90 (.bool t91) ?_
     refine oV [(1,strA t1),(2,t2),(3,v3),(16,.int .i64 t16),(90,.bool t91)] (n122 ?_)
     obtain⟨k124,e124,z⟩:=lS z
     have J124:∀(t7_125:AV) (h_126:AHeap),k124 t7_125 h_126=some (rR,hR)→Go w0 m0 (Func.ntmps Tryd.f31) (K13 .normal) [(7,t7_125)] [] h_126:=by
      intro t7_125 h_126 z
      rw[e124] at z
      exact gW _ (J111 _ _ z)
     cases t91 with
     |true=>
      refine oT z fun z=>?_
      refine W.r ?_
      refine oF 92 34 2 z fun t92 z=>?_
      refine oL 93 32 z fun v93 z=>?_
      refine oP 94 32 34 .i64 z fun t94 z=>?_
      refine oR 95 34 z fun t95 z=>?_
      refine oA 96 (strA t1) ?_
      refine oA 97 t2 ?_
      refine oC hc (some 98) z fun r98 h_131 z=>?_
      refine oA 7 r98 ?_
      refine oV [(7,r98)] ?_
      exact gW _ (J124 _ _ z)
     | false =>
      refine oU z fun z=>?_
      refine oG fun n133=>W.r ?_
      refine oB 100 z fun t100 z=>?_
      refine oA 99 (.bool t100) ?_
      refine oV [(1,strA t1),(2,t2),(3,v3),(99,.bool t100)] (n133 ?_)
      obtain⟨k135,e135,z⟩:=lS z
      have J135:∀(t7_136:AV) (h_137:AHeap),k135 t7_136 h_137=some (rR,hR)→Go w0 m0 (Func.ntmps Tryd.f31) (K13 .normal) [(7,t7_136)] [] h_137:=by
       intro t7_136 h_137 z
       rw[e135] at z
       exact gW _ (J124 _ _ z)
      cases t100 with
      |true=>
       refine oT z fun z=>?_
       refine W.draw (by kernel_rfl) (hc.ok w0) (plan:=[0,1,2,3,4,5,6,7,8,9,10,11,12,13]) (by kernel_rfl) (by kernel_rfl) (by kernel_rfl) ?_
       obtain⟨t101,e138,z⟩:=oS z
       refine WD.b 0 (some 101) t101 h_6 (field_ptr (P:=Pg) (h:=h_6) (s:=34) (f:=2) (by kernel_rfl) e138) ?_
       obtain⟨v102,e139,z⟩:=oS z
       refine WD.b 1 (some 102) v102 h_6 (load_cell (P:=Pg) (h:=h_6) (t:=32) (by kernel_rfl) e139) ?_
       obtain⟨t103,e140,z⟩:=oS z
       refine WD.b 0 (some 103) t103 h_6 (index_row (P:=Pg) (h:=h_6) (t:=32) (e':=34) (k:=.i64) (by kernel_rfl) (by kernel_rfl) (by kernel_rfl) e140) ?_
       obtain⟨t104,e141,z⟩:=oS z
       refine WD.b 1 (some 104) (.agg t104) h_6 (load_row (P:=Pg) (h:=h_6) (t:=34) (by kernel_rfl) (by kernel_rfl) e141) ?_
       refine WD.a 0 (some 105) (strA t1) h_6 ?_
       obtain⟨t106,e142,z⟩:=oS z
       refine WD.b 0 (some 106) t106 h_6 (field_ptr (P:=Pg) (h:=h_6) (s:=34) (f:=2) (by kernel_rfl) e142) ?_
       obtain⟨v107,e143,z⟩:=oS z
       refine WD.b 1 (some 107) v107 h_6 (load_cell (P:=Pg) (h:=h_6) (t:=32) (by kernel_rfl) e143) ?_
       obtain⟨t108,e144,z⟩:=oS z
       refine WD.b 0 (some 108) t108 h_6 (index_row (P:=Pg) (h:=h_6) (t:=32) (e':=34) (k:=.i64) (by kernel_rfl) (by kernel_rfl) (by kernel_rfl) e144) ?_
       obtain⟨t109,e145,z⟩:=oS z
       refine WD.b 1 (some 109) (.agg t109) h_6 (load_row (P:=Pg) (h:=h_6) (t:=34) (by kernel_rfl) (by kernel_rfl) e145) ?_
       refine WD.a 0 (some 110) (strA t1) h_6 ?_
       refine WD.a 0 (some 111) t2 h_6 ?_
       obtain⟨r112,h_146,e147,z⟩:=callN_some z
       obtain⟨k148,z⟩:=chk_some z
       refine WD.call (d:=(some 112)) (by kernel_rfl) (by kernel_rfl) (by kernel_rfl) e147 (k:=2) (by kernel_rfl) (fun _=>(Eq.trans (by kernel_rfl) k148)) (by decide) ?_
       obtain⟨r113,h_149,e150,z⟩:=callN_some z
       refine WD.call (d:=(some 113)) (by kernel_rfl) (by kernel_rfl) (by kernel_rfl) e150 (k:=2) (by kernel_rfl) (fun _=>(by kernel_rfl)) (by decide) ?_
       refine WD.a 0 (some 7) r113 h_149 ?_
       refine WD.nil ?_
       refine gW [(7,r113)] ?_
       exact gW _ (J135 _ _ z)
      |false=>
       refine oU z fun z=>?_
       refine W.r ?_
       refine oA 17 t2 ?_
       refine oA 7 t2 ?_
       refine oV [(7,t2)] ?_
       exact gW _ (J135 _ _ z)
noncomputable def ref10_both_L0b(t0:AV)(t1:AV)(v9:AV)(k9:AHeap→R)(self:Int→AHeap→R)(t6:Int)(h_13:AHeap):R:=
 obind (lenL t0) fun t12=>
 lett (decide (t6<t12)) fun (t13:Bool)=>
 ifB t13
 (
  obind (idxP 1 t0 t6) fun t20=>
  obind (ldCell h_13 t20) fun v21=>
  obind (avBool v21) fun t21=>
  lett (fun (t27:Bool) (h_23:AHeap)=>
   obind (idxP 1 v9 t6) fun t28=>
   obind (stRow h_23 1 [.bool t27] t28) fun h_27=>
   lett (IntKind.i64.wrap (t6+1)) fun (t15:Int)=>
   self t15 h_27) fun j27=>
  ifB t21
  (
   j27 true h_13)
  (
   obind (idxP 1 t1 t6) fun t25=>
   obind (ldCell h_13 t25) fun v26=>
   obind (avBool v26) fun t26=>
   j27 t26 h_13))
 (
  k9 h_13)
noncomputable def ref10_both_L0(t0:AV)(t1:AV)(v9:AV)(k9:AHeap→R):Nat→Int→AHeap→R:=iterR (fun _ _=>none) (ref10_both_L0b t0 t1 v9 k9)
theorem ref10_both_L0_s(t0:AV)(t1:AV)(v9:AV)(k9:AHeap→R)(m:Nat):ref10_both_L0 t0 t1 v9 k9 (m+1)=ref10_both_L0b t0 t1 v9 k9 (ref10_both_L0 t0 t1 v9 k9 m):=rfl
noncomputable def ref10_both(_:CallF)(n:Nat)(t0:AV)(t1:AV)(h:AHeap):R:=
 obind (lenL t0) fun t8=>
 outK (opMakeSlice Pg h 50 (some (.int .i64 t8)) (some (.int .i64 t8))) fun v9 h_4=>
 lett (fun (h_10:AHeap)=>
  some (.ret (v9),h_10)) fun k9=>
 ref10_both_L0 t0 t1 v9 k9 n 0 h_4
theorem ref10_both_ok{call:CallF}(_:SaysAll Pg call){n:Nat}{t0:AV}{t1:AV}{h:AHeap}{rR:ARes}{hR:AHeap}(z:ref10_both call n t0 t1 h=some (rR,hR)):Says Pg 48 [t0,t1] h rR hR:=by
 unfold ref10_both at z
 refine sO Tryd.func48 fun w0 m0=>?_
 refine wW [(0,t0),(1,t1)] ?_
 refine oG fun n1=>W.r ?_
 refine oA 4 AV.nsl ?_
 refine oV [(0,t0),(1,t1)] (n1 ?_)
 refine oG fun n2=>W.r ?_
 refine oA 7 t0 ?_
 refine oM 8 50 4 z fun t8 z=>?_
 refine oK 9 z fun v9 h_4 z=>?_
 refine oA 5 v9 ?_
 refine oV [(0,t0),(1,t1),(5,v9)] (n2 ?_)
 refine W.s (fun K6 n6 _ _ _=>?_)
 refine oG fun n7=>W.r ?_
 refine oA 6 (.int .i64 0) ?_
 refine oV [(0,t0),(1,t1),(5,v9),(6,.int .i64 0)] (n7 ?_)
 obtain⟨k9,e9,z⟩:=lS z
 have J9:∀(h_10:AHeap),k9 h_10=some (rR,hR)→Go w0 m0 (Func.ntmps Tryd.f48) (K6 .normal) [(5,v9)] [] h_10:=by
  intro h_10 z
  rw[e9] at z
  refine n6 ?_
  refine oG fun n11=>W.r ?_
  refine oA 29 v9 ?_
  refine oA 4 v9 ?_
  refine oV [(4,v9)] (n11 (oY ?_))
  exact lZ z [.tmp 4] [v9] (rT res_nil)
 refine W.blockK (by kernel_rfl) (fun K8 n8 s8 o8 q8 p8=>?_)
 refine W.loopK (by kernel_rfl) (fun I12 K12 b12 n12 e12 q12 p12=>?_)
 have L12:∀(m:Nat) (t6:Int) (h_13:AHeap),ref10_both_L0 t0 t1 v9 k9 m t6 h_13=some (rR,hR)→Go w0 m0 (Func.ntmps Tryd.f48) I12 [(0,t0),(1,t1),(5,v9),(6,.int .i64 t6)] [] h_13:=by
  intro m
  induction m with
  |zero=>intro t6 h_13 z;cases z
  | succ m ih12 =>
   intro t6 h_13 z
   rw[ref10_both_L0_s] at z;unfold ref10_both_L0b at z
   refine b12 ?_
   refine W.s (fun _ n14 e14 _ _=>?_)
   refine oG fun n15=>W.r ?_
   refine oA 10 (.int .i64 t6) ?_
   refine oA 11 t0 ?_
   refine oM 12 50 4 z fun t12 z=>?_
   refine oB 13 z fun t13 z=>?_
   refine oV [(0,t0),(1,t1),(5,v9),(6,.int .i64 t6),(13,.bool t13)] (n15 ?_)
   cases t13 with
   | true =>
    refine oT z fun z=>?_
    refine oZ (n14 ?_)
    refine oG fun n18=>?_
    refine W.blockK (by kernel_rfl) (fun K19 n19 s19 o19 q19 p19=>?_)
    refine W.r ?_
    refine oA 16 v9 ?_
    refine oA 17 (.int .i64 t6) ?_
    refine oA 18 t0 ?_
    refine oA 19 (.int .i64 t6) ?_
    refine oP 20 50 4 .i64 z fun t20 z=>?_
    refine oLb 21 4 z fun t21 z=>?_
    refine oA 22 (.bool t21) ?_
    obtain⟨j27,e24,z⟩:=lS z
    have J25:∀(t27:Bool) (h_23:AHeap),j27 t27 h_23=some (rR,hR)→WL Pg w0 m0 (Func.ntmps Tryd.f48) (Code.ops (Code.p1 (Code.p1 (Code.p2 (Code.p1 (Code.p1 (Code.p2 (Code.p1 (Code.p2 (Code.p2 (codeOf Tryd.f48))))))))))) 12 K19 [(0,t0),(1,t1),(5,v9),(6,.int .i64 t6),(16,v9),(17,.int .i64 t6),(27,.bool t27)] [] h_23:=by
     intro t27 h_23 z
     rw[e24] at z
     refine oP 28 50 4 .i64 z fun t28 z=>?_
     refine oW 4 (.bool t27) z fun h_27 z=>?_
     refine oV [(0,t0),(1,t1),(5,v9),(6,.int .i64 t6)] (n19 (n18 (W.r ?_)))
     refine oA 14 (.int .i64 t6) ?_
     refine oI 15 .i64 z fun t15 z=>?_
     refine oA 6 (.int .i64 t15) ?_
     refine oV [(0,t0),(1,t1),(5,v9),(6,.int .i64 t15)] (n12 ?_)
     exact gW _ (ih12 _ _ z)
    cases t21 with
    |true=>
     replace z:=ifB_t z
     refine WL.o (some 23) ?_
     refine WL.o (some 24) ?_
     refine WL.o (some 25) ?_
     refine WL.o (some 26) ?_
     refine oA 27 (.bool true) ?_
     exact lW _ (J25 _ _ z)
    |false=>
     replace z:=ifB_f z
     refine oA 23 t1 ?_
     refine oA 24 (.int .i64 t6) ?_
     refine oP 25 50 4 .i64 z fun t25 z=>?_
     refine oLb 26 4 z fun t26 z=>?_
     refine oA 27 (.bool t26) ?_
     exact lW _ (J25 _ _ z)
   |false=>
    refine oU z fun z=>?_
    refine W.exit (by kernel_rfl) ?_
    refine e14 (e12 ?_)
    refine s8 (by kernel_rfl) ?_
    exact gW _ (J9 _ z)
 exact gW _ (L12 _ _ _ z)
noncomputable def ref10_again_L1b(t2_6:AV)(r15:AV)(k19:Bool→AHeap→R)(self:Bool→Int→AHeap→R)(t8_26:Bool)(t9:Int)(h_27:AHeap):R:=
 obind (lenL r15) fun t18=>
 lett (decide (t9<t18)) fun (t19:Bool)=>
 ifB t19
 (
  lett (fun (t8_35:Bool) (h_36:AHeap)=>
   lett (IntKind.i64.wrap (t9+1)) fun (t21:Int)=>
   self t8_35 t21 h_36) fun k34=>
  ifB t8_26
  (
   k34 true h_27)
  (
   obind (idxP 1 r15 t9) fun t26=>
   obind (ldCell h_27 t26) fun v27=>
   obind (avBool v27) fun t27=>
   obind (idxP 1 t2_6 t9) fun t30=>
   obind (ldCell h_27 t30) fun v31=>
   obind (avBool v31) fun t31=>
   lett (!((t27:Bool) == t31)) fun (t32:Bool)=>
   k34 t32 h_27))
 (
  k19 t8_26 h_27)
noncomputable def ref10_again_L1(t2_6:AV)(r15:AV)(k19:Bool→AHeap→R):Nat→Bool→Int→AHeap→R:=iterR (fun _ _ _=>none) (ref10_again_L1b t2_6 r15 k19)
theorem ref10_again_L1_s(t2_6:AV)(r15:AV)(k19:Bool→AHeap→R)(m:Nat):ref10_again_L1 t2_6 r15 k19 (m+1)=ref10_again_L1b t2_6 r15 k19 (ref10_again_L1 t2_6 r15 k19 m):=rfl
noncomputable def ref10_again_L0b(call:CallF)(n:Nat)(t1:Bytes)(v3:AV)(self:AV→AHeap→R)(t2_6:AV)(h_7:AHeap):R:=
 obind (ldRow h_7 6 v3) fun t11=>
 callN (call 31 [.agg t11,strA t1,t2_6] h_7) fun r14 h_11=>
 callN (call 48 [t2_6,r14] h_11) fun r15 h_13=>
 lett (fun (t8:Bool) (h_20:AHeap)=>
  lett (!t8) fun (t35:Bool)=>
  ifB t35
  (
   some (.ret (r15),h_20))
  (
   self r15 h_20)) fun k19=>
 ref10_again_L1 t2_6 r15 k19 n false 0 h_13
noncomputable def ref10_again_L0(call:CallF)(n:Nat)(t1:Bytes)(v3:AV):Nat→AV→AHeap→R:=iterR (fun _ _=>none) (ref10_again_L0b call n t1 v3)
theorem ref10_again_L0_s(call:CallF)(n:Nat)(t1:Bytes)(v3:AV)(m:Nat):ref10_again_L0 call n t1 v3 (m+1)=ref10_again_L0b call n t1 v3 (ref10_again_L0 call n t1 v3 m):=rfl
noncomputable def ref10_again(call:CallF)(n:Nat)(t0:List AV)(t1:Bytes)(t2:AV)(h:AHeap):R:=
 outK (opBox h 34 (some (.agg t0))) fun v3 h_2=>
 ref10_again_L0 call n t1 v3 n t2 h_2
theorem ref10_again_ok{call:CallF}(hc:SaysAll Pg call){n:Nat}{t0:List AV}{t1:Bytes}{t2:AV}{h:AHeap}{rR:ARes}{hR:AHeap}(z:ref10_again call n t0 t1 t2 h=some (rR,hR)):Says Pg 49 [.agg t0,strA t1,t2] h rR hR:=by
 unfold ref10_again at z
 refine sO Tryd.func49 fun w0 m0=>?_
 refine wW [(0,.agg t0),(1,strA t1),(2,t2)] ?_
 refine oG fun n1=>W.r ?_
 refine oK 3 z fun v3 h_2 z=>?_
 refine oA 6 AV.nsl ?_
 refine oV [(1,strA t1),(2,t2),(3,v3)] (n1 ?_)
 refine W.blockK (by kernel_rfl) (fun K4 n4 s4 o4 q4 p4=>?_)
 refine W.loopK (by kernel_rfl) (fun I5 K5 b5 n5 e5 q5 p5=>?_)
 have L5:∀(m:Nat) (t2_6:AV) (h_7:AHeap),ref10_again_L0 call n t1 v3 m t2_6 h_7=some (rR,hR)→Go w0 m0 (Func.ntmps Tryd.f49) I5 [(1,strA t1),(2,t2_6),(3,v3)] [] h_7:=by
  intro m
  induction m with
  |zero=>intro t2_6 h_7 z;cases z
  | succ m ih5 =>
   intro t2_6 h_7 z
   rw[ref10_again_L0_s] at z;unfold ref10_again_L0b at z
   refine b5 ?_
   refine W.blockK (by kernel_rfl) (fun K8 n8 s8 o8 q8 p8=>?_)
   refine oG fun n9=>W.r ?_
   refine oA 10 t2_6 ?_
   refine oR 11 34 z fun t11 z=>?_
   refine oA 12 (strA t1) ?_
   refine oA 13 t2_6 ?_
   refine oC hc (some 14) z fun r14 h_11 z=>?_
   refine oC hc (some 15) z fun r15 h_13 z=>?_
   refine oA 7 r15 ?_
   refine oV [(1,strA t1),(2,t2_6),(3,v3),(7,r15)] (n9 ?_)
   refine oG fun n15=>W.r ?_
   refine oA 8 (.bool false) ?_
   refine oV [(1,strA t1),(2,t2_6),(3,v3),(7,r15),(8,.bool false)] (n15 ?_)
   refine W.s (fun K16 n16 _ _ _=>?_)
   refine oG fun n17=>W.r ?_
   refine oA 9 (.int .i64 0) ?_
   refine oV [(1,strA t1),(2,t2_6),(3,v3),(7,r15),(8,.bool false),(9,.int .i64 0)] (n17 ?_)
   obtain⟨k19,e19,z⟩:=lS z
   have J19:∀(t8:Bool) (h_20:AHeap),k19 t8 h_20=some (rR,hR)→Go w0 m0 (Func.ntmps Tryd.f49) (K16 .normal) [(1,strA t1),(3,v3),(7,r15),(8,.bool t8)] [] h_20:=by
    intro t8 h_20 z
    rw[e19] at z
    refine n16 ?_
    refine oH fun n21 q21=>?_
    refine oG fun n22=>W.r ?_
    refine oA 34 (.bool t8) ?_
    refine oB 35 z fun t35 z=>?_
    refine oV [(1,strA t1),(3,v3),(7,r15),(35,.bool t35)] (n22 ?_)
    cases t35 with
    |true=>
     refine oT z fun z=>?_
     refine oG fun n24=>W.r ?_
     refine oA 36 r15 ?_
     refine oA 6 r15 ?_
     refine oV [(6,r15)] (n24 (oY (q21 (q8 (q5 (q4 ?_))))))
     exact lZ z [.tmp 6] [r15] (rT res_nil)
    |false=>
     refine oU z fun z=>?_
     refine oZ (n21 (W.r ?_))
     refine oA 37 r15 ?_
     refine oA 2 r15 ?_
     refine oV [(1,strA t1),(2,r15),(3,v3)] (n8 (n5 ?_))
     exact gW _ (ih5 _ _ z)
   refine W.blockK (by kernel_rfl) (fun K18 n18 s18 o18 q18 p18=>?_)
   refine W.loopK (by kernel_rfl) (fun I25 K25 b25 n25 e25 q25 p25=>?_)
   have L25:∀(m:Nat) (t8_26:Bool) (t9:Int) (h_27:AHeap),ref10_again_L1 t2_6 r15 k19 m t8_26 t9 h_27=some (rR,hR)→Go w0 m0 (Func.ntmps Tryd.f49) I25 [(1,strA t1),(2,t2_6),(3,v3),(7,r15),(8,.bool t8_26),(9,.int .i64 t9)] [] h_27:=by
    intro m
    induction m with
    |zero=>intro t8_26 t9 h_27 z;cases z
    | succ m ih25 =>
     intro t8_26 t9 h_27 z
     rw[ref10_again_L1_s] at z;unfold ref10_again_L1b at z
     refine b25 ?_
     refine W.s (fun _ n28 e28 _ _=>?_)
     refine oG fun n29=>W.r ?_
     refine oA 16 (.int .i64 t9) ?_
     refine oA 17 r15 ?_
     refine oM 18 50 4 z fun t18 z=>?_
     refine oB 19 z fun t19 z=>?_
     refine oV [(1,strA t1),(2,t2_6),(3,v3),(7,r15),(8,.bool t8_26),(9,.int .i64 t9),(19,.bool t19)] (n29 ?_)
     cases t19 with
     | true =>
      refine oT z fun z=>?_
      refine oZ (n28 ?_)
      refine oG fun n32=>?_
      refine W.blockK (by kernel_rfl) (fun K33 n33 s33 o33 q33 p33=>?_)
      obtain⟨k34,e34,z⟩:=lS z
      have J34:∀(t8_35:Bool) (h_36:AHeap),k34 t8_35 h_36=some (rR,hR)→Go w0 m0 (Func.ntmps Tryd.f49) (K33 .normal) [(1,strA t1),(2,t2_6),(3,v3),(7,r15),(8,.bool t8_35),(9,.int .i64 t9)] [] h_36:=by
       intro t8_35 h_36 z
       rw[e34] at z
       refine n33 (n32 (W.r ?_))
       refine oA 20 (.int .i64 t9) ?_
       refine oI 21 .i64 z fun t21 z=>?_
       refine oA 9 (.int .i64 t21) ?_
       refine oV [(1,strA t1),(2,t2_6),(3,v3),(7,r15),(8,.bool t8_35),(9,.int .i64 t21)] (n25 ?_)
       exact gW _ (ih25 _ _ _ z)
      refine W.draw (by kernel_rfl) (hc.ok w0) (plan:=[0,1,2,3,4,5,6,7,8,9,10,11,12]) (by kernel_rfl) (by kernel_rfl) (by kernel_rfl) ?_
      refine WD.a 0 (some 22) (.bool t8_26) h_27 ?_
      refine WD.a 0 (some 23) (.bool t8_26) h_27 ?_
      cases t8_26 with
      |true=>
       replace z:=ifB_t z
       refine oD 0 (some 24) ?_
       refine oD 0 (some 25) ?_
       refine oD 0 (some 26) ?_
       refine oD 1 (some 27) ?_
       refine oD 0 (some 28) ?_
       refine oD 0 (some 29) ?_
       refine oD 0 (some 30) ?_
       refine oD 1 (some 31) ?_
       refine oD 0 (some 32) ?_
       refine WD.a 0 (some 33) (.bool true) h_27 ?_
       refine WD.val (d:=(some 8)) (v:=.bool true) (h':=h_27) (by kernel_rfl) (by kernel_rfl) (by kernel_rfl) (k:=2) (by kernel_rfl) (fun _=>(by kernel_rfl)) (by decide) ?_
       refine WD.nil ?_
       exact gW _ (J34 _ _ z)
      |false=>
       replace z:=ifB_f z
       refine WD.a 0 (some 24) r15 h_27 ?_
       refine WD.a 0 (some 25) (.int .i64 t9) h_27 ?_
       obtain⟨t26,e38,z⟩:=oS z
       refine WD.b 0 (some 26) t26 h_27 (index_row (P:=Pg) (h:=h_27) (t:=50) (e':=4) (k:=.i64) (by kernel_rfl) (by kernel_rfl) (by kernel_rfl) e38) ?_
       replace z:=oS z;obtain⟨v27,e39,z⟩:=z
       replace z:=oS z;obtain⟨t27,c40,z⟩:=z
       have c40:=avBool_some c40
       subst c40
       refine WD.b 1 (some 27) (.bool t27) h_27 (load_cell (P:=Pg) (h:=h_27) (t:=4) (by kernel_rfl) e39) ?_
       refine WD.a 0 (some 28) t2_6 h_27 ?_
       refine WD.a 0 (some 29) (.int .i64 t9) h_27 ?_
       obtain⟨t30,e41,z⟩:=oS z
       refine WD.b 0 (some 30) t30 h_27 (index_row (P:=Pg) (h:=h_27) (t:=50) (e':=4) (k:=.i64) (by kernel_rfl) (by kernel_rfl) (by kernel_rfl) e41) ?_
       replace z:=oS z;obtain⟨v31,e42,z⟩:=z
       replace z:=oS z;obtain⟨t31,c43,z⟩:=z
       have c43:=avBool_some c43
       subst c43
       refine WD.b 1 (some 31) (.bool t31) h_27 (load_cell (P:=Pg) (h:=h_27) (t:=4) (by kernel_rfl) e42) ?_
       obtain⟨t32,e44,z⟩:=lS z
       refine WD.val (d:=(some 32)) (v:=.bool t32) (h':=h_27) (by kernel_rfl) (by kernel_rfl) (val_of AV.bool e44 (by kernel_rfl)) (k:=0) (by kernel_rfl) (fun e=>absurd e (by decide)) (by decide) ?_
       refine WD.a 0 (some 33) (.bool t32) h_27 ?_
       refine WD.val (d:=(some 8)) (v:=.bool t32) (h':=h_27) (by kernel_rfl) (by kernel_rfl) (by kernel_rfl) (k:=2) (by kernel_rfl) (fun _=>(by kernel_rfl)) (by decide) ?_
       refine WD.nil ?_
       exact gW _ (J34 _ _ z)
     |false=>
      refine oU z fun z=>?_
      refine W.exit (by kernel_rfl) ?_
      refine e28 (e25 ?_)
      refine s18 (by kernel_rfl) ?_
      exact gW _ (J19 _ _ z)
   exact gW _ (L25 _ _ _ _ z)
 exact gW _ (L5 _ _ _ z)
noncomputable def ref10_start(_:CallF)(_:Nat)(t0:Bytes)(h:AHeap):R:=
 lett (IntKind.i64.wrap ((lenS t0)+1)) fun (t6:Int)=>
 outK (opMakeSlice Pg h 50 (some (.int .i64 t6)) (some (.int .i64 t6))) fun v7 h_4=>
 obind (idxP 1 v7 0) fun t9=>
 obind (stRow h_4 1 [.bool true] t9) fun h_8=>
 some (.ret (v7),h_8)
theorem ref10_start_ok{call:CallF}(_:SaysAll Pg call){n:Nat}{t0:Bytes}{h:AHeap}{rR:ARes}{hR:AHeap}(z:ref10_start call n t0 h=some (rR,hR)):Says Pg 32 [strA t0] h rR hR:=by
 unfold ref10_start at z
 refine sO Tryd.func32 fun w0 m0=>?_
 refine wW [(0,strA t0)] ?_
 refine oG fun n1=>W.r ?_
 refine oA 2 AV.nsl ?_
 refine oV [(0,strA t0)] (n1 ?_)
 refine oG fun n2=>W.r ?_
 refine oA 4 (strA t0) ?_
 refine oA 5 (.int .i64 (lenS t0)) ?_
 refine oI 6 .i64 z fun t6 z=>?_
 refine oK 7 z fun v7 h_4 z=>?_
 refine oA 3 v7 ?_
 refine oV [(3,v7)] (n2 ?_)
 refine oG fun n6=>W.r ?_
 refine oA 8 v7 ?_
 refine oP 9 50 4 .i64 z fun t9 z=>?_
 refine oW 4 (.bool true) z fun h_8 z=>?_
 refine oV [(3,v7)] (n6 ?_)
 refine oG fun n10=>W.r ?_
 refine oA 10 v7 ?_
 refine oA 2 v7 ?_
 refine oV [(2,v7)] (n10 (oY ?_))
 exact lZ z [.tmp 2] [v7] (rT res_nil)
noncomputable def ref10_Fits(call:CallF)(_:Nat)(t0:List AV)(t1:Bytes)(h:AHeap):R:=
 outK (opBox h 34 (some (.agg t0))) fun v2 h_2=>
 obind (ldRow h_2 6 v2) fun t6=>
 callN (call 32 [strA t1] h_2) fun r9 h_6=>
 chk (reLoad Pg h_6 34 v2 (.agg t6)&&true)<|
 callN (call 31 [.agg t6,strA t1,r9] h_6) fun r10 h_9=>
 obind (idxP 1 r10 (lenS t1)) fun t14=>
 obind (ldCell h_9 t14) fun v15=>
 obind (avBool v15) fun t15=>
 some (.ret (.bool t15),h_9)
theorem ref10_Fits_ok{call:CallF}(hc:SaysAll Pg call){n:Nat}{t0:List AV}{t1:Bytes}{h:AHeap}{rR:ARes}{hR:AHeap}(z:ref10_Fits call n t0 t1 h=some (rR,hR)):Says Pg 15 [.agg t0,strA t1] h rR hR:=by
 unfold ref10_Fits at z
 refine sO Tryd.func15 fun w0 m0=>?_
 refine wW [(0,.agg t0),(1,strA t1)] ?_
 refine oG fun n1=>W.r ?_
 refine oK 2 z fun v2 h_2 z=>?_
 refine oA 4 (.bool false) ?_
 refine oV [(1,strA t1),(2,v2)] (n1 ?_)
 refine oG fun n4=>?_
 refine W.draw (by kernel_rfl) (hc.ok w0) (plan:=[0,1,2,3,4,5]) (by kernel_rfl) (by kernel_rfl) (by kernel_rfl) ?_
 obtain⟨t6,e5,z⟩:=oS z
 refine WD.b 1 (some 6) (.agg t6) h_2 (load_row (P:=Pg) (h:=h_2) (t:=34) (by kernel_rfl) (by kernel_rfl) e5) ?_
 refine WD.a 0 (some 7) (strA t1) h_2 ?_
 refine WD.a 0 (some 8) (strA t1) h_2 ?_
 obtain⟨r9,h_6,e7,z⟩:=callN_some z
 obtain⟨k8,z⟩:=chk_some z
 refine WD.call (d:=(some 9)) (by kernel_rfl) (by kernel_rfl) (by kernel_rfl) e7 (k:=2) (by kernel_rfl) (fun _=>(Eq.trans (by kernel_rfl) k8)) (by decide) ?_
 obtain⟨r10,h_9,e10,z⟩:=callN_some z
 refine WD.call (d:=(some 10)) (by kernel_rfl) (by kernel_rfl) (by kernel_rfl) e10 (k:=2) (by kernel_rfl) (fun _=>(by kernel_rfl)) (by decide) ?_
 refine WD.a 0 (some 5) r10 h_9 ?_
 refine WD.nil ?_
 refine gW [(1,strA t1),(5,r10)] (n4 ?_)
 refine oG fun n11=>W.r ?_
 refine oA 11 r10 ?_
 refine oA 12 (strA t1) ?_
 refine oA 13 (.int .i64 (lenS t1)) ?_
 refine oP 14 50 4 .i64 z fun t14 z=>?_
 refine oLb 15 4 z fun t15 z=>?_
 refine oA 4 (.bool t15) ?_
 refine oV [(4,.bool t15)] (n11 (oY ?_))
 exact lZ z [.tmp 4] [.bool t15] (rT res_nil)
noncomputable def ref09_Has(_:CallF)(_:Nat)(t0:List AV)(t1:Int)(h:AHeap):R:=
 outK (opBox h 31 (some (.agg t0))) fun v2 h_2=>
 obind (quoI .u8 t1 64) fun t6=>
 obind (idxA 4 1 v2 t6) fun t7=>
 obind (ldCell h_2 t7) fun v8=>
 obind (avInt .u64 v8) fun t8=>
 obind (remI .u8 t1 64) fun t10=>
 obind (shrI .u64 t8 t10) fun t11=>
 lett (andI .u64 t11 1) fun (t12:Int)=>
 lett ((t12:Int) == 1) fun (t13:Bool)=>
 some (.ret (.bool t13),h_2)
theorem ref09_Has_ok{call:CallF}(_:SaysAll Pg call){n:Nat}{t0:List AV}{t1:Int}{h:AHeap}{rR:ARes}{hR:AHeap}(z:ref09_Has call n t0 t1 h=some (rR,hR)):Says Pg 47 [.agg t0,.int .u8 t1] h rR hR:=by
 unfold ref09_Has at z
 refine sO Tryd.func47 fun w0 m0=>?_
 refine wW [(0,.agg t0),(1,.int .u8 t1)] ?_
 refine oG fun n1=>W.r ?_
 refine oK 2 z fun v2 h_2 z=>?_
 refine oA 4 (.bool false) ?_
 refine oV [(1,.int .u8 t1),(2,v2)] (n1 ?_)
 refine oG fun n4=>W.r ?_
 refine oA 5 (.int .u8 t1) ?_
 obtain⟨t6,e5,z⟩:=oS z
 refine WL.b (some 6) (.int .u8 t6) h_2 (quo_int (P:=Pg) (h:=h_2) (t:=5) (lit:=true) e5) ?_
 refine oQ 7 31 29 .u8 z fun t7 z=>?_
 refine oLi 8 29 z fun t8 z=>?_
 refine oA 9 (.int .u8 t1) ?_
 obtain⟨t10,e9,z⟩:=oS z
 refine WL.b (some 10) (.int .u8 t10) h_2 (rem_int (P:=Pg) (h:=h_2) (t:=5) (lit:=true) e9) ?_
 obtain⟨t11,e10,z⟩:=oS z
 refine WL.b (some 11) (.int .u64 t11) h_2 (shr_int (P:=Pg) (h:=h_2) (t:=29) (k':=.u8) (lit:=false) e10) ?_
 refine oI 12 .u64 z fun t12 z=>?_
 refine oB 13 z fun t13 z=>?_
 refine oA 4 (.bool t13) ?_
 refine oV [(4,.bool t13)] (n4 (oY ?_))
 exact lZ z [.tmp 4] [.bool t13] (rT res_nil)
set_option maxHeartbeats 4000000
set_option maxRecDepth 20000
noncomputable def ref09_bad(_:CallF)(_:Nat)(t0:Int)(h:AHeap):R:=
 lett (newH h 36 [.int .i64 0,.int .i64 0]) fun h_2=>
 obind (stRow h_2 2 ([.int .i64 6,.int .i64 t0]:List AV) (newP h)) fun h_5=>
 obind (ldRow h_5 2 (newP h)) fun w2=>
 some (.ret (.agg w2),h_5)
theorem ref09_bad_ok{call:CallF}(_:SaysAll Pg call){n:Nat}{t0:Int}{h:AHeap}{rR:ARes}{hR:AHeap}(z:ref09_bad call n t0 h=some (rR,hR)):Says Pg 29 [.int .i64 t0] h rR hR:=by
 unfold ref09_bad at z
 refine sO Tryd.func29 fun w0 m0=>?_
 refine wW [(0,.int .i64 t0)] ?_
 refine oG fun n1=>W.r ?_
 refine oN 2 z fun h_2 z=>?_
 refine oV [(0,.int .i64 t0),(2,newP h)] (n1 ?_)
 refine oG fun n4=>W.r ?_
 refine oA 3 (.int .i64 t0) ?_
 refine oA 4 (.agg ([.int .i64 6,.int .i64 t0]:List AV)) ?_
 refine oW 36 (.agg ([.int .i64 6,.int .i64 t0]:List AV)) z fun h_5 z=>?_
 refine oV [(2,newP h)] (n4 (oY ?_))
 obtain⟨w2,e7,z⟩:=oS z
 exact lZ z [.cell 2 36] [.agg w2] (rY e7 res_nil)
set_option maxHeartbeats 4000000
set_option maxRecDepth 20000
noncomputable def ref09_Tree(call:CallF)(_:Nat)(t0:List AV)(h:AHeap):R:=
 outK (opBox h 23 (some (.agg t0))) fun v1 h_2=>
 lett (newH h_2 34 [.int .i64 0,.int .u64 0,.int .u64 0,.int .u64 0,.int .u64 0,.nsl]) fun h_4=>
 lett (newH h_4 36 [.int .i64 0,.int .i64 0]) fun h_6=>
 obind (fldP 0 v1) fun t9=>
 obind (ldCell h_6 t9) fun v10=>
 obind (avInt .i64 v10) fun t10=>
 lett ((t10:Int) != 1) fun (t11:Bool)=>
 lett (fun (t16 : Bool) (h_14 : AHeap) =>
  lett (fun (t21 : Bool) (h_17 : AHeap) =>
   ifB t21
   (
    obind (stRow h_17 6 ([.int .i64 0,.int .u64 0,.int .u64 0,.int .u64 0,.int .u64 0,.nsl]:List AV) (newP h_2)) fun h_21=>
    obind (stRow h_21 2 ([.int .i64 2,.int .i64 0]:List AV) (newP h_4)) fun h_23=>
    obind (ldRow h_23 6 (newP h_2)) fun w2=>
    obind (ldRow h_23 2 (newP h_4)) fun w3=>
    some (.ret (.tup [.agg w2,.agg w3]),h_23))
   (
    obind (fldP 1 v1) fun t24=>
    obind (ldCell h_17 t24) fun v25=>
    obind (avStr v25) fun t25=>
    lett (decide ((lenS t25)>64)) fun (t27:Bool)=>
    ifB t27
    (
     obind (stRow h_17 6 ([.int .i64 0,.int .u64 0,.int .u64 0,.int .u64 0,.int .u64 0,.nsl]:List AV) (newP h_2)) fun h_34=>
     obind (stRow h_34 2 ([.int .i64 3,.int .i64 64]:List AV) (newP h_4)) fun h_36=>
     obind (ldRow h_36 6 (newP h_2)) fun w2_39=>
     obind (ldRow h_36 2 (newP h_4)) fun w3_41=>
     some (.ret (.tup [.agg w2_39,.agg w3_41]),h_36))
    (
     obind (fldP 0 v1) fun t30=>
     obind (ldCell h_17 t30) fun v31=>
     obind (avInt .i64 v31) fun t31=>
     lett ((t31:Int) == 1) fun (t32:Bool)=>
     ifB t32
     (
      obind (fldP 1 v1) fun t33=>
      obind (ldCell h_17 t33) fun v34=>
      obind (avStr v34) fun t34=>
      callN (call 27 [strA t34] h_17) fun r35 h_52=>
      obind (avAgg r35) fun t35=>
      obind (stRow h_52 6 t35 (newP h_2)) fun h_55=>
      obind (stRow h_55 2 ([.int .i64 0,.int .i64 0]:List AV) (newP h_4)) fun h_57=>
      obind (ldRow h_57 6 (newP h_2)) fun w2_60=>
      obind (ldRow h_57 2 (newP h_4)) fun w3_62=>
      some (.ret (.tup [.agg w2_60,.agg w3_62]),h_57))
     (
      obind (fldP 0 v1) fun t37=>
      obind (ldCell h_17 t37) fun v38=>
      obind (avInt .i64 v38) fun t38=>
      lett ((t38:Int) == 2) fun (t39:Bool)=>
      ifB t39
      (
       obind (fldP 1 v1) fun t41=>
       obind (ldCell h_17 t41) fun v42=>
       obind (avStr v42) fun t42=>
       callN (call 28 [strA t42] h_17) fun r43 h_73=>
       obind (extT 0 r43) fun v44=>
       obind (avAgg v44) fun t44=>
       obind (extT 1 r43) fun v45=>
       obind (avBool v45) fun t45=>
       lett (newH h_73 34 [.int .i64 0,.int .u64 0,.int .u64 0,.int .u64 0,.int .u64 0,.nsl]) fun h_79=>
       obind (stRow h_79 6 t44 (newP h_73)) fun h_81=>
       lett (!t45) fun (t47:Bool)=>
       ifB t47
       (
        obind (fldP 1 v1) fun t49=>
        obind (ldCell h_81 t49) fun v50=>
        obind (avStr v50) fun t50=>
        callN (call 29 [.int .i64 (lenS t50)] h_81) fun r52 h_90=>
        obind (avAgg r52) fun t52=>
        obind (stRow h_90 6 ([.int .i64 0,.int .u64 0,.int .u64 0,.int .u64 0,.int .u64 0,.nsl]:List AV) (newP h_2)) fun h_93=>
        obind (stRow h_93 2 t52 (newP h_4)) fun h_95=>
        obind (ldRow h_95 6 (newP h_2)) fun w2_98=>
        obind (ldRow h_95 2 (newP h_4)) fun w3_100=>
        some (.ret (.tup [.agg w2_98,.agg w3_100]),h_95))
       (
        obind (ldRow h_81 6 (newP h_73)) fun t53=>
        obind (stRow h_81 6 t53 (newP h_2)) fun h_103=>
        obind (stRow h_103 2 ([.int .i64 0,.int .i64 0]:List AV) (newP h_4)) fun h_105=>
        obind (ldRow h_105 6 (newP h_2)) fun w2_108=>
        obind (ldRow h_105 2 (newP h_4)) fun w3_110=>
        some (.ret (.tup [.agg w2_108,.agg w3_110]),h_105)))
      (
       obind (fldP 1 v1) fun t56=>
       obind (ldCell h_17 t56) fun v57=>
       obind (avStr v57) fun t57=>
       callN (call 30 [strA t57,.int .i64 0] h_17) fun r58 h_115=>
       obind (extT 0 r58) fun v59=>
       obind (avAgg v59) fun t59=>
       obind (extT 1 r58) fun v60=>
       obind (avInt .i64 v60) fun t60=>
       obind (extT 2 r58) fun v61=>
       obind (avBool v61) fun t61=>
       lett (newH h_115 34 [.int .i64 0,.int .u64 0,.int .u64 0,.int .u64 0,.int .u64 0,.nsl]) fun h_123=>
       obind (stRow h_123 6 t59 (newP h_115)) fun h_125=>
       lett (!t61) fun (t63:Bool)=>
       lett (fun (t70:Bool) (h_130:AHeap)=>
        ifB t70
        (
         callN (call 29 [.int .i64 t60] h_130) fun r73 h_134=>
         obind (avAgg r73) fun t73=>
         obind (stRow h_134 6 ([.int .i64 0,.int .u64 0,.int .u64 0,.int .u64 0,.int .u64 0,.nsl]:List AV) (newP h_2)) fun h_137=>
         obind (stRow h_137 2 t73 (newP h_4)) fun h_139=>
         obind (ldRow h_139 6 (newP h_2)) fun w2_142=>
         obind (ldRow h_139 2 (newP h_4)) fun w3_144=>
         some (.ret (.tup [.agg w2_142,.agg w3_144]),h_139))
        (
         obind (ldRow h_130 6 (newP h_115)) fun t74=>
         obind (stRow h_130 6 t74 (newP h_2)) fun h_147=>
         obind (stRow h_147 2 ([.int .i64 0,.int .i64 0]:List AV) (newP h_4)) fun h_149=>
         obind (ldRow h_149 6 (newP h_2)) fun w2_152=>
         obind (ldRow h_149 2 (newP h_4)) fun w3_154=>
         some (.ret (.tup [.agg w2_152,.agg w3_154]),h_149))) fun j70=>
       ifB t63
       (
        j70 true h_125)
       (
        obind (fldP 1 v1) fun t66=>
        obind (ldCell h_125 t66) fun v67=>
        obind (avStr v67) fun t67=>
        lett (decide (t60<(lenS t67))) fun (t69:Bool)=>
        j70 t69 h_125)))))) fun j21=>
  ifB t16
  (
   obind (fldP 0 v1) fun t18=>
   obind (ldCell h_14 t18) fun v19=>
   obind (avInt .i64 v19) fun t19=>
   lett ((t19:Int) != 3) fun (t20:Bool)=>
   j21 t20 h_14)
  (
   j21 false h_14)) fun j16=>
 ifB t11
 (
  obind (fldP 0 v1) fun t13=>
  obind (ldCell h_6 t13) fun v14=>
  obind (avInt .i64 v14) fun t14=>
  lett ((t14:Int) != 2) fun (t15:Bool)=>
  j16 t15 h_6)
 (
  j16 false h_6)
theorem ref09_Tree_ok{call:CallF}(hc:SaysAll Pg call){n:Nat}{t0:List AV}{h:AHeap}{rR:ARes}{hR:AHeap}(z:ref09_Tree call n t0 h=some (rR,hR)):Says Pg 13 [.agg t0] h rR hR:=by
 unfold ref09_Tree at z
 refine sO Tryd.func13 fun w0 m0=>?_
 refine wW [(0,.agg t0)] ?_
 refine oG fun n1=>W.r ?_
 refine oK 1 z fun v1 h_2 z=>?_
 refine oN 2 z fun h_4 z=>?_
 refine oN 3 z fun h_6 z=>?_
 refine oV [(1,v1),(2,newP h_2),(3,newP h_4)] (n1 ?_)
 refine oH fun n8 q8=>?_
 refine W.s (fun K9 n9 _ _ _=>?_)
 refine W.r ?_
 refine oF 9 23 0 z fun t9 z=>?_
 refine oLi 10 3 z fun t10 z=>?_
 refine oB 11 z fun t11 z=>?_
 refine oA 12 (.bool t11) ?_
 obtain⟨j16,e15,z⟩:=lS z
 have J16 : ∀ (t16 : Bool) (h_14 : AHeap), j16 t16 h_14 = some (rR, hR) → WL Pg w0 m0 (Func.ntmps Tryd.f13) (Code.ops (Code.p1 (Code.p1 (Code.p2 (codeOf Tryd.f13))))) 8 K9 [(1, v1), (2, newP h_2), (3, newP h_4), (16, .bool t16)] [] h_14 := by
  intro t16 h_14 z
  rw[e15] at z
  refine oA 17 (.bool t16) ?_
  obtain⟨j21,e18,z⟩:=lS z
  have J19:∀(t21:Bool) (h_17:AHeap),j21 t21 h_17=some (rR,hR)→WL Pg w0 m0 (Func.ntmps Tryd.f13) (Code.ops (Code.p1 (Code.p1 (Code.p2 (codeOf Tryd.f13))))) 13 K9 [(1,v1),(2,newP h_2),(3,newP h_4),(21,.bool t21)] [] h_17:=by
   intro t21 h_17 z
   rw[e18] at z
   refine oV [(1,v1),(2,newP h_2),(3,newP h_4),(21,.bool t21)] (n9 ?_)
   cases t21 with
   |true=>
    refine oT z fun z=>?_
    refine oG fun n20=>W.r ?_
    refine oA 22 (.agg ([.int .i64 0,.int .u64 0,.int .u64 0,.int .u64 0,.int .u64 0,.nsl]:List AV)) ?_
    refine oA 23 (.agg ([.int .i64 2,.int .i64 0]:List AV)) ?_
    refine oW 34 (.agg ([.int .i64 0,.int .u64 0,.int .u64 0,.int .u64 0,.int .u64 0,.nsl]:List AV)) z fun h_21 z=>?_
    refine oW 36 (.agg ([.int .i64 2,.int .i64 0]:List AV)) z fun h_23 z=>?_
    refine oV [(2,newP h_2),(3,newP h_4)] (n20 (oY (q8 ?_)))
    obtain⟨w2,e25,z⟩:=oS z
    obtain⟨w3,e26,z⟩:=oS z
    exact lZ z [.cell 2 34,.cell 3 36] [.agg w2,.agg w3] (rY e25 (rY e26 res_nil))
   | false =>
    refine oU z fun z=>?_
    refine oZ (n8 ?_)
    refine oH fun n27 q27=>?_
    refine oG fun n28=>W.r ?_
    refine oF 24 23 1 z fun t24 z=>?_
    refine oLs 25 9 z fun t25 z=>?_
    refine oA 26 (.int .i64 (lenS t25)) ?_
    refine oB 27 z fun t27 z=>?_
    refine oV [(1,v1),(2,newP h_2),(3,newP h_4),(27,.bool t27)] (n28 ?_)
    cases t27 with
    |true=>
     refine oT z fun z=>?_
     refine oG fun n33=>W.r ?_
     refine oA 28 (.agg ([.int .i64 0,.int .u64 0,.int .u64 0,.int .u64 0,.int .u64 0,.nsl]:List AV)) ?_
     refine oA 29 (.agg ([.int .i64 3,.int .i64 64]:List AV)) ?_
     refine oW 34 (.agg ([.int .i64 0,.int .u64 0,.int .u64 0,.int .u64 0,.int .u64 0,.nsl]:List AV)) z fun h_34 z=>?_
     refine oW 36 (.agg ([.int .i64 3,.int .i64 64]:List AV)) z fun h_36 z=>?_
     refine oV [(2,newP h_2),(3,newP h_4)] (n33 (oY (q27 ?_)))
     obtain⟨w2_39,e38,z⟩:=oS z
     obtain⟨w3_41,e40,z⟩:=oS z
     exact lZ z [.cell 2 34,.cell 3 36] [.agg w2_39,.agg w3_41] (rY e38 (rY e40 res_nil))
    | false =>
     refine oU z fun z=>?_
     refine oZ (n27 ?_)
     refine oH fun n42 q42=>?_
     refine oG fun n43=>W.r ?_
     refine oF 30 23 0 z fun t30 z=>?_
     refine oLi 31 3 z fun t31 z=>?_
     refine oB 32 z fun t32 z=>?_
     refine oV [(1,v1),(2,newP h_2),(3,newP h_4),(32,.bool t32)] (n43 ?_)
     cases t32 with
     |true=>
      refine oT z fun z=>?_
      refine oG fun n48=>W.r ?_
      refine oF 33 23 1 z fun t33 z=>?_
      refine oLs 34 9 z fun t34 z=>?_
      refine oCa hc 35 z fun t35 h_52 z=>?_
      refine oA 36 (.agg ([.int .i64 0,.int .i64 0]:List AV)) ?_
      refine oW 34 (.agg t35) z fun h_55 z=>?_
      refine oW 36 (.agg ([.int .i64 0,.int .i64 0]:List AV)) z fun h_57 z=>?_
      refine oV [(2,newP h_2),(3,newP h_4)] (n48 (oY (q42 ?_)))
      obtain⟨w2_60,e59,z⟩:=oS z
      obtain⟨w3_62,e61,z⟩:=oS z
      exact lZ z [.cell 2 34,.cell 3 36] [.agg w2_60,.agg w3_62] (rY e59 (rY e61 res_nil))
     | false =>
      refine oU z fun z=>?_
      refine oZ (n42 ?_)
      refine oH fun n63 q63=>?_
      refine oG fun n64=>W.r ?_
      refine oF 37 23 0 z fun t37 z=>?_
      refine oLi 38 3 z fun t38 z=>?_
      refine oB 39 z fun t39 z=>?_
      refine oV [(1,v1),(2,newP h_2),(3,newP h_4),(39,.bool t39)] (n64 ?_)
      cases t39 with
      | true =>
       refine oT z fun z=>?_
       refine oG fun n69=>W.r ?_
       refine oF 41 23 1 z fun t41 z=>?_
       refine oLs 42 9 z fun t42 z=>?_
       refine oC hc (some 43) z fun r43 h_73 z=>?_
       refine oA 40 r43 ?_
       refine oEa 44 z fun t44 z=>?_
       refine oEb 45 z fun t45 z=>?_
       refine oN 4 z fun h_79 z=>?_
       refine oW 34 (.agg t44) z fun h_81 z=>?_
       refine oA 5 (.bool t45) ?_
       refine oV [(1,v1),(2,newP h_2),(3,newP h_4),(4,newP h_73),(5,.bool t45)] (n69 ?_)
       refine oH fun n83 q83=>?_
       refine oG fun n84=>W.r ?_
       refine oA 46 (.bool t45) ?_
       refine oB 47 z fun t47 z=>?_
       refine oV [(1,v1),(2,newP h_2),(3,newP h_4),(4,newP h_73),(47,.bool t47)] (n84 ?_)
       cases t47 with
       |true=>
        refine oT z fun z=>?_
        refine oG fun n86=>W.r ?_
        refine oA 48 (.agg ([.int .i64 0,.int .u64 0,.int .u64 0,.int .u64 0,.int .u64 0,.nsl]:List AV)) ?_
        refine oF 49 23 1 z fun t49 z=>?_
        refine oLs 50 9 z fun t50 z=>?_
        refine oA 51 (.int .i64 (lenS t50)) ?_
        refine oCa hc 52 z fun t52 h_90 z=>?_
        refine oW 34 (.agg ([.int .i64 0,.int .u64 0,.int .u64 0,.int .u64 0,.int .u64 0,.nsl]:List AV)) z fun h_93 z=>?_
        refine oW 36 (.agg t52) z fun h_95 z=>?_
        refine oV [(2,newP h_2),(3,newP h_4)] (n86 (oY (q83 (q63 ?_))))
        obtain⟨w2_98,e97,z⟩:=oS z
        obtain⟨w3_100,e99,z⟩:=oS z
        exact lZ z [.cell 2 34,.cell 3 36] [.agg w2_98,.agg w3_100] (rY e97 (rY e99 res_nil))
       |false=>
        refine oU z fun z=>?_
        refine oZ (n83 ?_)
        refine oG fun n101=>W.r ?_
        refine oR 53 34 z fun t53 z=>?_
        refine oA 54 (.agg ([.int .i64 0,.int .i64 0]:List AV)) ?_
        refine oW 34 (.agg t53) z fun h_103 z=>?_
        refine oW 36 (.agg ([.int .i64 0,.int .i64 0]:List AV)) z fun h_105 z=>?_
        refine oV [(2,newP h_2),(3,newP h_4)] (n101 (oY (q63 ?_)))
        obtain⟨w2_108,e107,z⟩:=oS z
        obtain⟨w3_110,e109,z⟩:=oS z
        exact lZ z [.cell 2 34,.cell 3 36] [.agg w2_108,.agg w3_110] (rY e107 (rY e109 res_nil))
      | false =>
       refine oU z fun z=>?_
       refine oZ (n63 ?_)
       refine oG fun n111=>W.r ?_
       refine oF 56 23 1 z fun t56 z=>?_
       refine oLs 57 9 z fun t57 z=>?_
       refine oC hc (some 58) z fun r58 h_115 z=>?_
       refine oA 55 r58 ?_
       refine oEa 59 z fun t59 z=>?_
       refine oEi 60 z fun t60 z=>?_
       refine oEb 61 z fun t61 z=>?_
       refine oN 6 z fun h_123 z=>?_
       refine oW 34 (.agg t59) z fun h_125 z=>?_
       refine oA 7 (.int .i64 t60) ?_
       refine oA 8 (.bool t61) ?_
       refine oV [(1,v1),(2,newP h_2),(3,newP h_4),(6,newP h_115),(7,.int .i64 t60),(8,.bool t61)] (n111 ?_)
       refine oH fun n127 q127=>?_
       refine W.s (fun K128 n128 _ _ _=>?_)
       refine W.r ?_
       refine oA 62 (.bool t61) ?_
       refine oB 63 z fun t63 z=>?_
       refine oA 64 (.bool t63) ?_
       obtain⟨j70,e131,z⟩:=lS z
       have J132:∀(t70:Bool) (h_130:AHeap),j70 t70 h_130=some (rR,hR)→WL Pg w0 m0 (Func.ntmps Tryd.f13) (Code.ops (Code.p1 (Code.p1 (Code.p2 (Code.p2 (Code.p2 (Code.p2 (Code.p2 (Code.p2 (codeOf Tryd.f13)))))))))) 9 K128 [(2,newP h_2),(3,newP h_4),(6,newP h_115),(7,.int .i64 t60),(70,.bool t70)] [] h_130:=by
        intro t70 h_130 z
        rw[e131] at z
        refine oV [(2,newP h_2),(3,newP h_4),(6,newP h_115),(7,.int .i64 t60),(70,.bool t70)] (n128 ?_)
        cases t70 with
        |true=>
         refine oT z fun z=>?_
         refine oG fun n133=>W.r ?_
         refine oA 71 (.agg ([.int .i64 0,.int .u64 0,.int .u64 0,.int .u64 0,.int .u64 0,.nsl]:List AV)) ?_
         refine oA 72 (.int .i64 t60) ?_
         refine oCa hc 73 z fun t73 h_134 z=>?_
         refine oW 34 (.agg ([.int .i64 0,.int .u64 0,.int .u64 0,.int .u64 0,.int .u64 0,.nsl]:List AV)) z fun h_137 z=>?_
         refine oW 36 (.agg t73) z fun h_139 z=>?_
         refine oV [(2,newP h_2),(3,newP h_4)] (n133 (oY (q127 ?_)))
         obtain⟨w2_142,e141,z⟩:=oS z
         obtain⟨w3_144,e143,z⟩:=oS z
         exact lZ z [.cell 2 34,.cell 3 36] [.agg w2_142,.agg w3_144] (rY e141 (rY e143 res_nil))
        |false=>
         refine oU z fun z=>?_
         refine oZ (n127 ?_)
         refine oG fun n145=>W.r ?_
         refine oR 74 34 z fun t74 z=>?_
         refine oA 75 (.agg ([.int .i64 0,.int .i64 0]:List AV)) ?_
         refine oW 34 (.agg t74) z fun h_147 z=>?_
         refine oW 36 (.agg ([.int .i64 0,.int .i64 0]:List AV)) z fun h_149 z=>?_
         refine oV [(2,newP h_2),(3,newP h_4)] (n145 (oY ?_))
         obtain⟨w2_152,e151,z⟩:=oS z
         obtain⟨w3_154,e153,z⟩:=oS z
         exact lZ z [.cell 2 34,.cell 3 36] [.agg w2_152,.agg w3_154] (rY e151 (rY e153 res_nil))
       cases t63 with
       |true=>
        replace z:=ifB_t z
        refine WL.o (some 65) ?_
        refine WL.o (some 66) ?_
        refine WL.o (some 67) ?_
        refine WL.o (some 68) ?_
        refine WL.o (some 69) ?_
        refine oA 70 (.bool true) ?_
        exact lW _ (J132 _ _ z)
       |false=>
        replace z:=ifB_f z
        refine oA 65 (.int .i64 t60) ?_
        refine oF 66 23 1 z fun t66 z=>?_
        refine oLs 67 9 z fun t67 z=>?_
        refine oA 68 (.int .i64 (lenS t67)) ?_
        refine oB 69 z fun t69 z=>?_
        refine oA 70 (.bool t69) ?_
        exact lW _ (J132 _ _ z)
  cases t16 with
  |true=>
   replace z:=ifB_t z
   refine oF 18 23 0 z fun t18 z=>?_
   refine oLi 19 3 z fun t19 z=>?_
   refine oB 20 z fun t20 z=>?_
   refine oA 21 (.bool t20) ?_
   exact lW _ (J19 _ _ z)
  |false=>
   replace z:=ifB_f z
   refine WL.o (some 18) ?_
   refine WL.o (some 19) ?_
   refine WL.o (some 20) ?_
   refine oA 21 (.bool false) ?_
   exact lW _ (J19 _ _ z)
 cases t11 with
 |true=>
  replace z:=ifB_t z
  refine oF 13 23 0 z fun t13 z=>?_
  refine oLi 14 3 z fun t14 z=>?_
  refine oB 15 z fun t15 z=>?_
  refine oA 16 (.bool t15) ?_
  exact lW _ (J16 _ _ z)
 |false=>
  replace z:=ifB_f z
  refine WL.o (some 13) ?_
  refine WL.o (some 14) ?_
  refine WL.o (some 15) ?_
  refine oA 16 (.bool false) ?_
  exact lW _ (J16 _ _ z)
noncomputable def ref09_literal_L0b(call:CallF)(t0:Bytes)(k8:AV→AHeap→R)(self:AV→Int→AHeap→R)(t3_18:AV)(t4:Int)(h_19:AHeap):R:=
 lett (decide (t4<(lenS t0))) fun (t8:Bool)=>
 ifB t8
 (
  obind (idxS t0 t4) fun t14=>
  callN (call 43 [.int .u8 t14] h_19) fun r15 h_26=>
  obind (avAgg r15) fun t15=>
  outK (bldSl Pg h_26 32 1 [(0,.agg t15)]) fun v16 h_29=>
  outK (opAppend Pg h_29 32 32 t3_18 v16) fun v17 h_31=>
  lett (IntKind.i64.wrap (t4+1)) fun (t10:Int)=>
  self v17 t10 h_31)
 (
  k8 t3_18 h_19)
noncomputable def ref09_literal_L0(call:CallF)(t0:Bytes)(k8:AV→AHeap→R):Nat→AV→Int→AHeap→R:=iterR (fun _ _ _=>none) (ref09_literal_L0b call t0 k8)
theorem ref09_literal_L0_s(call:CallF)(t0:Bytes)(k8:AV→AHeap→R)(m:Nat):ref09_literal_L0 call t0 k8 (m+1)=ref09_literal_L0b call t0 k8 (ref09_literal_L0 call t0 k8 m):=rfl
noncomputable def ref09_literal(call:CallF)(n:Nat)(t0:Bytes)(h:AHeap):R:=
 lett (newH h 34 [.int .i64 0,.int .u64 0,.int .u64 0,.int .u64 0,.int .u64 0,.nsl]) fun h_2=>
 lett (fun (t3:AV) (h_9:AHeap)=>
  callN (call 44 [.int .i64 3,t3] h_9) fun r19 h_11=>
  obind (avAgg r19) fun t19=>
  obind (stRow h_11 6 t19 (newP h)) fun h_14=>
  obind (ldRow h_14 6 (newP h)) fun w2=>
  some (.ret (.agg w2),h_14)) fun k8=>
 ref09_literal_L0 call t0 k8 n AV.nsl 0 h_2
theorem ref09_literal_ok{call:CallF}(hc:SaysAll Pg call){n:Nat}{t0:Bytes}{h:AHeap}{rR:ARes}{hR:AHeap}(z:ref09_literal call n t0 h=some (rR,hR)):Says Pg 27 [strA t0] h rR hR:=by
 unfold ref09_literal at z
 refine sO Tryd.func27 fun w0 m0=>?_
 refine wW [(0,strA t0)] ?_
 refine oG fun n1=>W.r ?_
 refine oN 2 z fun h_2 z=>?_
 refine oV [(0,strA t0),(2,newP h)] (n1 ?_)
 refine oG fun n4=>W.r ?_
 refine oA 3 AV.nsl ?_
 refine oV [(0,strA t0),(2,newP h),(3,AV.nsl)] (n4 ?_)
 refine W.s (fun K5 n5 _ _ _=>?_)
 refine oG fun n6=>W.r ?_
 refine oA 4 (.int .i64 0) ?_
 refine oV [(0,strA t0),(2,newP h),(3,AV.nsl),(4,.int .i64 0)] (n6 ?_)
 obtain⟨k8,e8,z⟩:=lS z
 have J8:∀(t3:AV) (h_9:AHeap),k8 t3 h_9=some (rR,hR)→Go w0 m0 (Func.ntmps Tryd.f27) (K5 .normal) [(2,newP h),(3,t3)] [] h_9:=by
  intro t3 h_9 z
  rw[e8] at z
  refine n5 ?_
  refine oG fun n10=>W.r ?_
  refine oA 18 t3 ?_
  refine oCa hc 19 z fun t19 h_11 z=>?_
  refine oW 34 (.agg t19) z fun h_14 z=>?_
  refine oV [(2,newP h)] (n10 (oY ?_))
  obtain⟨w2,e16,z⟩:=oS z
  exact lZ z [.cell 2 34] [.agg w2] (rY e16 res_nil)
 refine W.blockK (by kernel_rfl) (fun K7 n7 s7 o7 q7 p7=>?_)
 refine W.loopK (by kernel_rfl) (fun I17 K17 b17 n17 e17 q17 p17=>?_)
 have L17:∀(m:Nat) (t3_18:AV) (t4:Int) (h_19:AHeap),ref09_literal_L0 call t0 k8 m t3_18 t4 h_19=some (rR,hR)→Go w0 m0 (Func.ntmps Tryd.f27) I17 [(0,strA t0),(2,newP h),(3,t3_18),(4,.int .i64 t4)] [] h_19:=by
  intro m
  induction m with
  |zero=>intro t3_18 t4 h_19 z;cases z
  | succ m ih17 =>
   intro t3_18 t4 h_19 z
   rw[ref09_literal_L0_s] at z;unfold ref09_literal_L0b at z
   refine b17 ?_
   refine W.s (fun _ n20 e20 _ _=>?_)
   refine oG fun n21=>W.r ?_
   refine oA 5 (.int .i64 t4) ?_
   refine oA 6 (strA t0) ?_
   refine oA 7 (.int .i64 (lenS t0)) ?_
   refine oB 8 z fun t8 z=>?_
   refine oV [(0,strA t0),(2,newP h),(3,t3_18),(4,.int .i64 t4),(8,.bool t8)] (n21 ?_)
   cases t8 with
   |true=>
    refine oT z fun z=>?_
    refine oZ (n20 ?_)
    refine oG fun n23=>?_
    refine W.blockK (by kernel_rfl) (fun K24 n24 s24 o24 q24 p24=>?_)
    refine W.r ?_
    refine oA 11 t3_18 ?_
    refine oA 12 (strA t0) ?_
    refine oA 13 (.int .i64 t4) ?_
    refine oX 14 9 .i64 z fun t14 z=>?_
    refine oCa hc 15 z fun t15 h_26 z=>?_
    refine oK 16 z fun v16 h_29 z=>?_
    refine oK 17 z fun v17 h_31 z=>?_
    refine oA 3 v17 ?_
    refine oV [(0,strA t0),(2,newP h),(3,v17),(4,.int .i64 t4)] (n24 (n23 (W.r ?_)))
    refine oA 9 (.int .i64 t4) ?_
    refine oI 10 .i64 z fun t10 z=>?_
    refine oA 4 (.int .i64 t10) ?_
    refine oV [(0,strA t0),(2,newP h),(3,v17),(4,.int .i64 t10)] (n17 ?_)
    exact gW _ (ih17 _ _ _ z)
   |false=>
    refine oU z fun z=>?_
    refine W.exit (by kernel_rfl) ?_
    refine e20 (e17 ?_)
    refine s7 (by kernel_rfl) ?_
    exact gW _ (J8 _ _ z)
 exact gW _ (L17 _ _ _ _ z)
noncomputable def ref09_glob_L0b(call:CallF)(t0:Bytes)(h:AHeap)(k8:AV→AHeap→R)(self:AV→Int→AHeap→R)(t4_18:AV)(t5:Int)(h_19:AHeap):R:=
 lett (decide (t5<(lenS t0))) fun (t9:Bool)=>
 ifB t9
 (
  obind (idxS t0 t5) fun t14=>
  lett ((t14:Int) == 92) fun (t15:Bool)=>
  lett (fun (t22 : Bool) (h_29 : AHeap) =>
   ifB t22
   (
    obind (stRow h_29 6 ([.int .i64 0,.int .u64 0,.int .u64 0,.int .u64 0,.int .u64 0,.nsl]:List AV) (newP h)) fun h_33=>
    obind (ldRow h_33 6 (newP h)) fun w2_36=>
    some (.ret (.tup [.agg w2_36,.bool false]),h_33))
   (
    obind (idxS t0 t5) fun t34=>
    lett ((t34:Int) == 92) fun (t35:Bool)=>
    lett (fun (t4_42:AV) (t5_43:Int) (h_44:AHeap)=>
     lett (IntKind.i64.wrap (t5_43+1)) fun (t11:Int)=>
     self t4_42 t11 h_44) fun k41=>
    ifB t35
    (
     lett (IntKind.i64.wrap (t5+1)) fun (t39:Int)=>
     obind (idxS t0 t39) fun t40=>
     callN (call 43 [.int .u8 t40] h_29) fun r41 h_49=>
     obind (avAgg r41) fun t41=>
     outK (bldSl Pg h_49 32 1 [(0,.agg t41)]) fun v42 h_52=>
     outK (opAppend Pg h_52 32 32 t4_18 v42) fun v43 h_54=>
     lett (IntKind.i64.wrap (t5+1)) fun (t45:Int)=>
     k41 v43 t45 h_54)
    (
     obind (idxS t0 t5) fun t49=>
     lett ((t49:Int) == 42) fun (t50:Bool)=>
     lett (fun (t4_61:AV) (h_62:AHeap)=>
      k41 t4_61 t5 h_62) fun k60=>
     ifB t50
     (
      callN (call 45 [] h_29) fun r52 h_63=>
      obind (avAgg r52) fun t52=>
      outK (bldSl Pg h_63 32 1 [(0,.agg t52)]) fun v53 h_66=>
      obind (bldS Pg 34 [(0,.int .i64 5),(2,v53)]) fun t54=>
      outK (bldSl Pg h_66 32 1 [(0,.agg t54)]) fun v55 h_69=>
      outK (opAppend Pg h_69 32 32 t4_18 v55) fun v56 h_71=>
      k60 v56 h_71)
     (
      obind (idxS t0 t5) fun t60=>
      lett ((t60:Int) == 63) fun (t61:Bool)=>
      lett (fun (t4_77:AV) (h_78:AHeap)=>
       k60 t4_77 h_78) fun k76=>
      ifB t61
      (
       callN (call 45 [] h_29) fun r63 h_79=>
       obind (avAgg r63) fun t63=>
       outK (bldSl Pg h_79 32 1 [(0,.agg t63)]) fun v64 h_82=>
       outK (opAppend Pg h_82 32 32 t4_18 v64) fun v65 h_84=>
       k76 v65 h_84)
      (
       obind (idxS t0 t5) fun t27=>
       callN (call 43 [.int .u8 t27] h_29) fun r28 h_87=>
       obind (avAgg r28) fun t28=>
       outK (bldSl Pg h_87 32 1 [(0,.agg t28)]) fun v29 h_90=>
       outK (opAppend Pg h_90 32 32 t4_18 v29) fun v30 h_92=>
       k76 v30 h_92))))) fun j22=>
  ifB t15
  (
   lett (IntKind.i64.wrap (t5+1)) fun (t18:Int)=>
   lett ((t18:Int) == (lenS t0)) fun (t21:Bool)=>
   j22 t21 h_19)
  (
   j22 false h_19))
 (
  k8 t4_18 h_19)
noncomputable def ref09_glob_L0(call:CallF)(t0:Bytes)(h:AHeap)(k8:AV→AHeap→R):Nat→AV→Int→AHeap→R:=iterR (fun _ _ _=>none) (ref09_glob_L0b call t0 h k8)
theorem ref09_glob_L0_s(call:CallF)(t0:Bytes)(h:AHeap)(k8:AV→AHeap→R)(m:Nat):ref09_glob_L0 call t0 h k8 (m+1)=ref09_glob_L0b call t0 h k8 (ref09_glob_L0 call t0 h k8 m):=rfl
noncomputable def ref09_glob(call:CallF)(n:Nat)(t0:Bytes)(h:AHeap):R:=
 lett (newH h 34 [.int .i64 0,.int .u64 0,.int .u64 0,.int .u64 0,.int .u64 0,.nsl]) fun h_2=>
 lett (fun (t4:AV) (h_9:AHeap)=>
  callN (call 44 [.int .i64 3,t4] h_9) fun r67 h_11=>
  obind (avAgg r67) fun t67=>
  obind (stRow h_11 6 t67 (newP h)) fun h_14=>
  obind (ldRow h_14 6 (newP h)) fun w2=>
  some (.ret (.tup [.agg w2,.bool true]),h_14)) fun k8=>
 ref09_glob_L0 call t0 h k8 n AV.nsl 0 h_2
theorem ref09_glob_ok{call:CallF}(hc:SaysAll Pg call){n:Nat}{t0:Bytes}{h:AHeap}{rR:ARes}{hR:AHeap}(z:ref09_glob call n t0 h=some (rR,hR)):Says Pg 28 [strA t0] h rR hR:=by
 unfold ref09_glob at z
 refine sO Tryd.func28 fun w0 m0=>?_
 refine wW [(0,strA t0)] ?_
 refine oG fun n1=>W.r ?_
 refine oN 2 z fun h_2 z=>?_
 refine oA 3 (.bool false) ?_
 refine oV [(0,strA t0),(2,newP h)] (n1 ?_)
 refine oG fun n4=>W.r ?_
 refine oA 4 AV.nsl ?_
 refine oV [(0,strA t0),(2,newP h),(4,AV.nsl)] (n4 ?_)
 refine W.s (fun K5 n5 _ q5 _=>?_)
 refine oG fun n6=>W.r ?_
 refine oA 5 (.int .i64 0) ?_
 refine oV [(0,strA t0),(2,newP h),(4,AV.nsl),(5,.int .i64 0)] (n6 ?_)
 obtain⟨k8,e8,z⟩:=lS z
 have J8:∀(t4:AV) (h_9:AHeap),k8 t4 h_9=some (rR,hR)→Go w0 m0 (Func.ntmps Tryd.f28) (K5 .normal) [(2,newP h),(4,t4)] [] h_9:=by
  intro t4 h_9 z
  rw[e8] at z
  refine n5 ?_
  refine oG fun n10=>W.r ?_
  refine oA 66 t4 ?_
  refine oCa hc 67 z fun t67 h_11 z=>?_
  refine oW 34 (.agg t67) z fun h_14 z=>?_
  refine oA 3 (.bool true) ?_
  refine oV [(2,newP h),(3,.bool true)] (n10 (oY ?_))
  obtain⟨w2,e16,z⟩:=oS z
  exact lZ z [.cell 2 34,.tmp 3] [.agg w2,.bool true] (rY e16 (rT res_nil))
 refine W.blockK (by kernel_rfl) (fun K7 n7 s7 o7 q7 p7=>?_)
 refine W.loopK (by kernel_rfl) (fun I17 K17 b17 n17 e17 q17 p17=>?_)
 have L17 : ∀ (m : Nat) (t4_18 : AV) (t5 : Int) (h_19 : AHeap), ref09_glob_L0 call t0 h k8 m t4_18 t5 h_19 = some (rR, hR) → Go w0 m0 (Func.ntmps Tryd.f28) I17 [(0, strA t0), (2, newP h), (4, t4_18), (5, .int .i64 t5)] [] h_19 := by
  intro m
  induction m with
  |zero=>intro t4_18 t5 h_19 z;cases z
  | succ m ih17 =>
   intro t4_18 t5 h_19 z
   rw[ref09_glob_L0_s] at z;unfold ref09_glob_L0b at z
   refine b17 ?_
   refine W.s (fun _ n20 e20 _ _=>?_)
   refine oG fun n21=>W.r ?_
   refine oA 6 (.int .i64 t5) ?_
   refine oA 7 (strA t0) ?_
   refine oA 8 (.int .i64 (lenS t0)) ?_
   refine oB 9 z fun t9 z=>?_
   refine oV [(0,strA t0),(2,newP h),(4,t4_18),(5,.int .i64 t5),(9,.bool t9)] (n21 ?_)
   cases t9 with
   | true =>
    refine oT z fun z=>?_
    refine oZ (n20 ?_)
    refine oH fun n23 q23=>?_
    refine W.blockK (by kernel_rfl) (fun K24 n24 s24 o24 q24 p24=>?_)
    refine oH fun n25 q25=>?_
    refine W.s (fun K26 n26 _ _ _=>?_)
    refine W.r ?_
    refine oA 12 (strA t0) ?_
    refine oA 13 (.int .i64 t5) ?_
    refine oX 14 9 .i64 z fun t14 z=>?_
    refine oB 15 z fun t15 z=>?_
    refine oA 16 (.bool t15) ?_
    obtain⟨j22,e30,z⟩:=lS z
    have J31:∀(t22:Bool) (h_29:AHeap),j22 t22 h_29=some (rR,hR)→WL Pg w0 m0 (Func.ntmps Tryd.f28) (Code.ops (Code.p1 (Code.p1 (Code.p1 (Code.p1 (Code.p2 (Code.p1 (Code.p1 (Code.p2 (Code.p1 (Code.p2 (Code.p2 (codeOf Tryd.f28))))))))))))) 11 K26 [(0,strA t0),(2,newP h),(4,t4_18),(5,.int .i64 t5),(22,.bool t22)] [] h_29:=by
     intro t22 h_29 z
     rw[e30] at z
     refine oV [(0,strA t0),(2,newP h),(4,t4_18),(5,.int .i64 t5),(22,.bool t22)] (n26 ?_)
     cases t22 with
     |true=>
      refine oT z fun z=>?_
      refine oG fun n32=>W.r ?_
      refine oA 23 (.agg ([.int .i64 0,.int .u64 0,.int .u64 0,.int .u64 0,.int .u64 0,.nsl]:List AV)) ?_
      refine oW 34 (.agg ([.int .i64 0,.int .u64 0,.int .u64 0,.int .u64 0,.int .u64 0,.nsl]:List AV)) z fun h_33 z=>?_
      refine oA 3 (.bool false) ?_
      refine oV [(2,newP h),(3,.bool false)] (n32 (oY (q25 (q24 (q23 (q17 (q7 (q5 ?_))))))))
      obtain⟨w2_36,e35,z⟩:=oS z
      exact lZ z [.cell 2 34,.tmp 3] [.agg w2_36,.bool false] (rY e35 (rT res_nil))
     | false =>
      refine oU z fun z=>?_
      refine oZ (n25 ?_)
      refine W.blockK (by kernel_rfl) (fun K37 n37 s37 o37 q37 p37=>?_)
      refine oG fun n38=>W.r ?_
      refine oA 32 (strA t0) ?_
      refine oA 33 (.int .i64 t5) ?_
      refine oX 34 9 .i64 z fun t34 z=>?_
      refine oB 35 z fun t35 z=>?_
      refine oA 31 (.bool t35) ?_
      refine oV [(0,strA t0),(2,newP h),(4,t4_18),(5,.int .i64 t5),(31,.bool t35)] (n38 ?_)
      obtain⟨k41,e41,z⟩:=lS z
      have J41:∀(t4_42:AV) (t5_43:Int) (h_44:AHeap),k41 t4_42 t5_43 h_44=some (rR,hR)→Go w0 m0 (Func.ntmps Tryd.f28) (K37 .normal) [(0,strA t0),(2,newP h),(4,t4_42),(5,.int .i64 t5_43)] [] h_44:=by
       intro t4_42 t5_43 h_44 z
       rw[e41] at z
       refine n37 (n24 (n23 (W.r ?_)))
       refine oA 10 (.int .i64 t5_43) ?_
       refine oI 11 .i64 z fun t11 z=>?_
       refine oA 5 (.int .i64 t11) ?_
       refine oV [(0,strA t0),(2,newP h),(4,t4_42),(5,.int .i64 t11)] (n17 ?_)
       exact gW _ (ih17 _ _ _ z)
      cases t35 with
      |true=>
       refine oT z fun z=>?_
       refine oG fun n46=>W.r ?_
       refine oA 36 t4_18 ?_
       refine oA 37 (strA t0) ?_
       refine oA 38 (.int .i64 t5) ?_
       refine oI 39 .i64 z fun t39 z=>?_
       refine oX 40 9 .i64 z fun t40 z=>?_
       refine oCa hc 41 z fun t41 h_49 z=>?_
       refine oK 42 z fun v42 h_52 z=>?_
       refine oK 43 z fun v43 h_54 z=>?_
       refine oA 4 v43 ?_
       refine oV [(0,strA t0),(2,newP h),(4,v43),(5,.int .i64 t5)] (n46 (W.r ?_))
       refine oA 44 (.int .i64 t5) ?_
       refine oI 45 .i64 z fun t45 z=>?_
       refine oA 5 (.int .i64 t45) ?_
       refine oV [(0,strA t0),(2,newP h),(4,v43),(5,.int .i64 t45)] ?_
       exact gW _ (J41 _ _ _ z)
      | false =>
       refine oU z fun z=>?_
       refine oG fun n57=>W.r ?_
       refine oA 47 (strA t0) ?_
       refine oA 48 (.int .i64 t5) ?_
       refine oX 49 9 .i64 z fun t49 z=>?_
       refine oB 50 z fun t50 z=>?_
       refine oA 46 (.bool t50) ?_
       refine oV [(0,strA t0),(2,newP h),(4,t4_18),(5,.int .i64 t5),(46,.bool t50)] (n57 ?_)
       obtain⟨k60,e60,z⟩:=lS z
       have J60:∀(t4_61:AV) (h_62:AHeap),k60 t4_61 h_62=some (rR,hR)→Go w0 m0 (Func.ntmps Tryd.f28) (K37 .normal) [(0,strA t0),(2,newP h),(4,t4_61),(5,.int .i64 t5)] [] h_62:=by
        intro t4_61 h_62 z
        rw[e60] at z
        exact gW _ (J41 _ _ _ z)
       cases t50 with
       |true=>
        refine oT z fun z=>?_
        refine W.r ?_
        refine oA 51 t4_18 ?_
        refine oCa hc 52 z fun t52 h_63 z=>?_
        refine oK 53 z fun v53 h_66 z=>?_
        obtain⟨t54,e68,z⟩:=oS z
        refine WL.val (d:=(some 54)) (v:=.agg t54) (h':=h_66) (by kernel_rfl) (by kernel_rfl) (bld_ok (by kernel_rfl) e68) ?_
        refine oK 55 z fun v55 h_69 z=>?_
        refine oK 56 z fun v56 h_71 z=>?_
        refine oA 4 v56 ?_
        refine oV [(0,strA t0),(2,newP h),(4,v56),(5,.int .i64 t5)] ?_
        exact gW _ (J60 _ _ z)
       | false =>
        refine oU z fun z=>?_
        refine oG fun n73=>W.r ?_
        refine oA 58 (strA t0) ?_
        refine oA 59 (.int .i64 t5) ?_
        refine oX 60 9 .i64 z fun t60 z=>?_
        refine oB 61 z fun t61 z=>?_
        refine oA 57 (.bool t61) ?_
        refine oV [(0,strA t0),(2,newP h),(4,t4_18),(5,.int .i64 t5),(57,.bool t61)] (n73 ?_)
        obtain⟨k76,e76,z⟩:=lS z
        have J76:∀(t4_77:AV) (h_78:AHeap),k76 t4_77 h_78=some (rR,hR)→Go w0 m0 (Func.ntmps Tryd.f28) (K37 .normal) [(0,strA t0),(2,newP h),(4,t4_77),(5,.int .i64 t5)] [] h_78:=by
         intro t4_77 h_78 z
         rw[e76] at z
         exact gW _ (J60 _ _ z)
        cases t61 with
        |true=>
         refine oT z fun z=>?_
         refine W.r ?_
         refine oA 62 t4_18 ?_
         refine oCa hc 63 z fun t63 h_79 z=>?_
         refine oK 64 z fun v64 h_82 z=>?_
         refine oK 65 z fun v65 h_84 z=>?_
         refine oA 4 v65 ?_
         refine oV [(0,strA t0),(2,newP h),(4,v65),(5,.int .i64 t5)] ?_
         exact gW _ (J76 _ _ z)
        |false=>
         refine oU z fun z=>?_
         refine W.r ?_
         refine oA 24 t4_18 ?_
         refine oA 25 (strA t0) ?_
         refine oA 26 (.int .i64 t5) ?_
         refine oX 27 9 .i64 z fun t27 z=>?_
         refine oCa hc 28 z fun t28 h_87 z=>?_
         refine oK 29 z fun v29 h_90 z=>?_
         refine oK 30 z fun v30 h_92 z=>?_
         refine oA 4 v30 ?_
         refine oV [(0,strA t0),(2,newP h),(4,v30),(5,.int .i64 t5)] ?_
         exact gW _ (J76 _ _ z)
    cases t15 with
    |true=>
     replace z:=ifB_t z
     refine oA 17 (.int .i64 t5) ?_
     refine oI 18 .i64 z fun t18 z=>?_
     refine oA 19 (strA t0) ?_
     refine oA 20 (.int .i64 (lenS t0)) ?_
     refine oB 21 z fun t21 z=>?_
     refine oA 22 (.bool t21) ?_
     exact lW _ (J31 _ _ z)
    |false=>
     replace z:=ifB_f z
     refine WL.o (some 17) ?_
     refine WL.o (some 18) ?_
     refine WL.o (some 19) ?_
     refine WL.o (some 20) ?_
     refine WL.o (some 21) ?_
     refine oA 22 (.bool false) ?_
     exact lW _ (J31 _ _ z)
   |false=>
    refine oU z fun z=>?_
    refine W.exit (by kernel_rfl) ?_
    refine e20 (e17 ?_)
    refine s7 (by kernel_rfl) ?_
    exact gW _ (J8 _ _ z)
 exact gW _ (L17 _ _ _ _ z)
noncomputable def ref09_One(_:CallF)(_:Nat)(t0:Int)(h:AHeap):R:=
 lett (newH h 34 [.int .i64 0,.int .u64 0,.int .u64 0,.int .u64 0,.int .u64 0,.nsl]) fun h_2=>
 lett (newH h_2 34 [.int .i64 0,.int .u64 0,.int .u64 0,.int .u64 0,.int .u64 0,.nsl]) fun h_5=>
 obind (stRow h_5 6 ([.int .i64 2,.int .u64 0,.int .u64 0,.int .u64 0,.int .u64 0,.nsl]:List AV) (newP h_2)) fun h_7=>
 obind (quoI .u8 t0 64) fun t6=>
 obind (remI .u8 t0 64) fun t8=>
 obind (shlI .u64 1 t8) fun t9=>
 obind (idxA 4 1 (AV.ptr (AHeap.next h_2) 1) t6) fun t11=>
 obind (stRow h_7 1 [.int .u64 t9] t11) fun h_14=>
 obind (ldRow h_14 6 (newP h_2)) fun t12=>
 obind (stRow h_14 6 t12 (newP h)) fun h_18=>
 obind (ldRow h_18 6 (newP h)) fun w2=>
 some (.ret (.agg w2),h_18)
theorem ref09_One_ok{call:CallF}(_:SaysAll Pg call){n:Nat}{t0:Int}{h:AHeap}{rR:ARes}{hR:AHeap}(z:ref09_One call n t0 h=some (rR,hR)):Says Pg 43 [.int .u8 t0] h rR hR:=by
 unfold ref09_One at z
 refine sO Tryd.func43 fun w0 m0=>?_
 refine wW [(0,.int .u8 t0)] ?_
 refine oG fun n1=>W.r ?_
 refine oN 2 z fun h_2 z=>?_
 refine oV [(0,.int .u8 t0),(2,newP h)] (n1 ?_)
 refine oG fun n4=>W.r ?_
 refine oA 4 (.agg ([.int .i64 2,.int .u64 0,.int .u64 0,.int .u64 0,.int .u64 0,.nsl]:List AV)) ?_
 refine oN 3 z fun h_5 z=>?_
 refine oW 34 (.agg ([.int .i64 2,.int .u64 0,.int .u64 0,.int .u64 0,.int .u64 0,.nsl]:List AV)) z fun h_7 z=>?_
 refine oV [(0,.int .u8 t0),(2,newP h),(3,newP h_2)] (n4 ?_)
 refine oG fun n9=>W.r ?_
 refine oA 5 (.int .u8 t0) ?_
 obtain⟨t6,e10,z⟩:=oS z
 refine WL.b (some 6) (.int .u8 t6) h_7 (quo_int (P:=Pg) (h:=h_7) (t:=5) (lit:=true) e10) ?_
 refine oA 7 (.int .u8 t0) ?_
 obtain⟨t8,e11,z⟩:=oS z
 refine WL.b (some 8) (.int .u8 t8) h_7 (rem_int (P:=Pg) (h:=h_7) (t:=5) (lit:=true) e11) ?_
 obtain⟨t9,e12,z⟩:=oS z
 refine WL.b (some 9) (.int .u64 t9) h_7 (shl_int (P:=Pg) (h:=h_7) (t:=29) (k':=.u8) (lit:=true) e12) ?_
 refine oA 10 (AV.ptr (AHeap.next h_2) 1) ?_
 refine oQ 11 31 29 .u8 z fun t11 z=>?_
 refine oW 29 (.int .u64 t9) z fun h_14 z=>?_
 refine oV [(2,newP h),(3,newP h_2)] (n9 ?_)
 refine oG fun n16=>W.r ?_
 refine oR 12 34 z fun t12 z=>?_
 refine oW 34 (.agg t12) z fun h_18 z=>?_
 refine oV [(2,newP h)] (n16 (oY ?_))
 obtain⟨w2,e20,z⟩:=oS z
 exact lZ z [.cell 2 34] [.agg w2] (rY e20 res_nil)
noncomputable def ref09_All_L0b(h_2:AHeap)(k12:AHeap→R)(self:Int→AHeap→R)(t2:Int)(h_20:AHeap):R:=
 lett (decide (t2<256)) fun (t5:Bool)=>
 ifB t5
 (
  obind (quoI .i64 t2 64) fun t9=>
  obind (idxA 4 1 (AV.ptr (AHeap.next h_2) 1) t9) fun t11=>
  obind (ldCell h_20 t11) fun v12=>
  obind (avInt .u64 v12) fun t12=>
  obind (remI .i64 t2 64) fun t14=>
  obind (shlI .u64 1 t14) fun t15=>
  lett (orI .u64 t12 t15) fun (t16:Int)=>
  obind (idxA 4 1 (AV.ptr (AHeap.next h_2) 1) t9) fun t18=>
  obind (stRow h_20 1 [.int .u64 t16] t18) fun h_34=>
  lett (IntKind.i64.wrap (t2+1)) fun (t7:Int)=>
  self t7 h_34)
 (
  k12 h_20)
noncomputable def ref09_All_L0(h_2:AHeap)(k12:AHeap→R):Nat→Int→AHeap→R:=iterR (fun _ _=>none) (ref09_All_L0b h_2 k12)
theorem ref09_All_L0_s(h_2:AHeap)(k12:AHeap→R)(m:Nat):ref09_All_L0 h_2 k12 (m+1)=ref09_All_L0b h_2 k12 (ref09_All_L0 h_2 k12 m):=rfl
noncomputable def ref09_All(_:CallF)(n:Nat)(h:AHeap):R:=
 lett (newH h 34 [.int .i64 0,.int .u64 0,.int .u64 0,.int .u64 0,.int .u64 0,.nsl]) fun h_2=>
 lett (newH h_2 34 [.int .i64 0,.int .u64 0,.int .u64 0,.int .u64 0,.int .u64 0,.nsl]) fun h_5=>
 obind (stRow h_5 6 ([.int .i64 2,.int .u64 0,.int .u64 0,.int .u64 0,.int .u64 0,.nsl]:List AV) (newP h_2)) fun h_7=>
 lett (fun (h_13:AHeap)=>
  obind (ldRow h_13 6 (newP h_2)) fun t19=>
  obind (stRow h_13 6 t19 (newP h)) fun h_16=>
  obind (ldRow h_16 6 (newP h)) fun w0=>
  some (.ret (.agg w0),h_16)) fun k12=>
 ref09_All_L0 h_2 k12 n 0 h_7
theorem ref09_All_ok{call:CallF}(hc:SaysAll Pg call){n:Nat}{h:AHeap}{rR:ARes}{hR:AHeap}(z:ref09_All call n h=some (rR,hR)):Says Pg 45 [] h rR hR:=by
 unfold ref09_All at z
 refine sO Tryd.func45 fun w0 m0=>?_
 refine wW [] ?_
 refine oG fun n1=>W.r ?_
 refine oN 0 z fun h_2 z=>?_
 refine oV [(0,newP h)] (n1 ?_)
 refine oG fun n4=>W.r ?_
 refine oA 3 (.agg ([.int .i64 2,.int .u64 0,.int .u64 0,.int .u64 0,.int .u64 0,.nsl]:List AV)) ?_
 refine oN 1 z fun h_5 z=>?_
 refine oW 34 (.agg ([.int .i64 2,.int .u64 0,.int .u64 0,.int .u64 0,.int .u64 0,.nsl]:List AV)) z fun h_7 z=>?_
 refine oV [(0,newP h),(1,newP h_2)] (n4 ?_)
 refine W.s (fun K9 n9 _ _ _=>?_)
 refine oG fun n10=>W.r ?_
 refine oA 2 (.int .i64 0) ?_
 refine oV [(0,newP h),(1,newP h_2),(2,.int .i64 0)] (n10 ?_)
 obtain⟨k12,e12,z⟩:=lS z
 have J12:∀(h_13:AHeap),k12 h_13=some (rR,hR)→Go w0 m0 (Func.ntmps Tryd.f45) (K9 .normal) [(0,newP h),(1,newP h_2)] [] h_13:=by
  intro h_13 z
  rw[e12] at z
  refine n9 ?_
  refine oG fun n14=>W.r ?_
  refine oR 19 34 z fun t19 z=>?_
  refine oW 34 (.agg t19) z fun h_16 z=>?_
  refine oV [(0,newP h)] (n14 (oY ?_))
  obtain⟨w0,e18,z⟩:=oS z
  exact lZ z [.cell 0 34] [.agg w0] (rY e18 res_nil)
 refine W.blockK (by kernel_rfl) (fun K11 n11 s11 o11 q11 p11=>?_)
 refine W.loopK (by kernel_rfl) (fun I19 K19 b19 n19 e19 q19 p19=>?_)
 have L19:∀(m:Nat) (t2:Int) (h_20:AHeap),ref09_All_L0 h_2 k12 m t2 h_20=some (rR,hR)→Go w0 m0 (Func.ntmps Tryd.f45) I19 [(0,newP h),(1,newP h_2),(2,.int .i64 t2)] [] h_20:=by
  intro m
  induction m with
  |zero=>intro t2 h_20 z;cases z
  | succ m ih19 =>
   intro t2 h_20 z
   rw[ref09_All_L0_s] at z;unfold ref09_All_L0b at z
   refine b19 ?_
   refine W.s (fun _ n21 e21 _ _=>?_)
   refine oG fun n22=>W.r ?_
   refine oA 4 (.int .i64 t2) ?_
   refine oB 5 z fun t5 z=>?_
   refine oV [(0,newP h),(1,newP h_2),(2,.int .i64 t2),(5,.bool t5)] (n22 ?_)
   cases t5 with
   |true=>
    refine oT z fun z=>?_
    refine oZ (n21 ?_)
    refine oG fun n24=>?_
    refine W.blockK (by kernel_rfl) (fun K25 n25 s25 o25 q25 p25=>?_)
    refine W.draw (by kernel_rfl) (hc.ok w0) (plan:=[0,1,2,3,4,5,6,7,8,9,10,11]) (by kernel_rfl) (by kernel_rfl) (by kernel_rfl) ?_
    refine WD.a 0 (some 8) (.int .i64 t2) h_20 ?_
    obtain⟨t9,e26,z⟩:=oS z
    refine WD.b 0 (some 9) (.int .i64 t9) h_20 (quo_int (P:=Pg) (h:=h_20) (t:=3) (lit:=true) e26) ?_
    refine WD.a 0 (some 10) (AV.ptr (AHeap.next h_2) 1) h_20 ?_
    obtain⟨t11,e27,z⟩:=oS z
    refine WD.b 0 (some 11) t11 h_20 (index_arr (P:=Pg) (h:=h_20) (t:=31) (e':=29) (k:=.i64) (by kernel_rfl) (by kernel_rfl) (by kernel_rfl) e27) ?_
    replace z:=oS z;obtain⟨v12,e28,z⟩:=z
    replace z:=oS z;obtain⟨t12,c29,z⟩:=z
    have c29:=avInt_some c29
    subst c29
    refine WD.b 1 (some 12) (.int .u64 t12) h_20 (load_cell (P:=Pg) (h:=h_20) (t:=29) (by kernel_rfl) e28) ?_
    refine WD.a 0 (some 13) (.int .i64 t2) h_20 ?_
    obtain⟨t14,e30,z⟩:=oS z
    refine WD.b 0 (some 14) (.int .i64 t14) h_20 (rem_int (P:=Pg) (h:=h_20) (t:=3) (lit:=true) e30) ?_
    obtain⟨t15,e31,z⟩:=oS z
    refine WD.b 0 (some 15) (.int .u64 t15) h_20 (shl_int (P:=Pg) (h:=h_20) (t:=29) (k':=.i64) (lit:=true) e31) ?_
    obtain⟨t16,e32,z⟩:=lS z
    refine WD.val (d:=(some 16)) (v:=.int .u64 t16) (h':=h_20) (by kernel_rfl) (by kernel_rfl) (val_of (AV.int .u64) e32 (by kernel_rfl)) (k:=0) (by kernel_rfl) (fun e=>absurd e (by decide)) (by decide) ?_
    refine WD.a 0 (some 17) (AV.ptr (AHeap.next h_2) 1) h_20 ?_
    obtain⟨t18,e33,z⟩:=oS z
    refine WD.b 0 (some 18) t18 h_20 (index_arr (P:=Pg) (h:=h_20) (t:=31) (e':=29) (k:=.i64) (by kernel_rfl) (by kernel_rfl) (by kernel_rfl) e33) ?_
    obtain⟨h_34,e35,z⟩:=oS z
    refine WD.eff (h':=h_34) (by kernel_rfl) (by kernel_rfl) (Eq.trans (by kernel_rfl) (store_row (P:=Pg) (h:=h_20) (t:=29) (v:=(.int .u64 t16)) (by kernel_rfl) (by kernel_rfl) e35)) (k:=2) (by kernel_rfl) (fun _=>(by kernel_rfl)) (by decide) ?_
    refine WD.nil ?_
    refine gW [(0,newP h),(1,newP h_2),(2,.int .i64 t2)] (n25 (n24 (W.r ?_)))
    refine oA 6 (.int .i64 t2) ?_
    refine oI 7 .i64 z fun t7 z=>?_
    refine oA 2 (.int .i64 t7) ?_
    refine oV [(0,newP h),(1,newP h_2),(2,.int .i64 t7)] (n19 ?_)
    exact gW _ (ih19 _ _ z)
   |false=>
    refine oU z fun z=>?_
    refine W.exit (by kernel_rfl) ?_
    refine e21 (e19 ?_)
    refine s11 (by kernel_rfl) ?_
    exact gW _ (J12 _ z)
 exact gW _ (L19 _ _ _ z)
noncomputable def ref09_Over(_:CallF)(_:Nat)(t0:Int)(t1:AV)(h:AHeap):R:=
 lett (newH h 34 [.int .i64 0,.int .u64 0,.int .u64 0,.int .u64 0,.int .u64 0,.nsl]) fun h_2=>
 obind (lenL t1) fun t6=>
 lett ((t6:Int) == 0) fun (t7:Bool)=>
 ifB t7
 (
  obind (stRow h_2 6 ([.int .i64 1,.int .u64 0,.int .u64 0,.int .u64 0,.int .u64 0,.nsl]:List AV) (newP h)) fun h_9=>
  obind (ldRow h_9 6 (newP h)) fun w4=>
  some (.ret (.agg w4),h_9))
 (
  obind (lenL t1) fun t10=>
  lett ((t10:Int) == 1) fun (t11:Bool)=>
  ifB t11
  (
   obind (idxP 6 t1 0) fun t13=>
   obind (ldRow h_2 6 t13) fun t14=>
   obind (stRow h_2 6 t14 (newP h)) fun h_19=>
   obind (ldRow h_19 6 (newP h)) fun w4_22=>
   some (.ret (.agg w4_22),h_19))
  (
   obind (bldS Pg 34 [(0,.int .i64 t0),(2,t1)]) fun t17=>
   obind (stRow h_2 6 t17 (newP h)) fun h_25=>
   obind (ldRow h_25 6 (newP h)) fun w4_28=>
   some (.ret (.agg w4_28),h_25)))
theorem ref09_Over_ok{call:CallF}(_:SaysAll Pg call){n:Nat}{t0:Int}{t1:AV}{h:AHeap}{rR:ARes}{hR:AHeap}(z:ref09_Over call n t0 t1 h=some (rR,hR)):Says Pg 44 [.int .i64 t0,t1] h rR hR:=by
 unfold ref09_Over at z
 refine sO Tryd.func44 fun w0 m0=>?_
 refine wW [(0,.int .i64 t0),(1,t1)] ?_
 refine oG fun n1=>W.r ?_
 refine oN 4 z fun h_2 z=>?_
 refine oV [(0,.int .i64 t0),(1,t1),(4,newP h)] (n1 ?_)
 refine oH fun n4 q4=>?_
 refine oG fun n5=>W.r ?_
 refine oA 5 t1 ?_
 refine oM 6 32 34 z fun t6 z=>?_
 refine oB 7 z fun t7 z=>?_
 refine oV [(0,.int .i64 t0),(1,t1),(4,newP h),(7,.bool t7)] (n5 ?_)
 cases t7 with
 |true=>
  refine oT z fun z=>?_
  refine oG fun n8=>W.r ?_
  refine oA 8 (.agg ([.int .i64 1,.int .u64 0,.int .u64 0,.int .u64 0,.int .u64 0,.nsl]:List AV)) ?_
  refine oW 34 (.agg ([.int .i64 1,.int .u64 0,.int .u64 0,.int .u64 0,.int .u64 0,.nsl]:List AV)) z fun h_9 z=>?_
  refine oV [(4,newP h)] (n8 (oY (q4 ?_)))
  obtain⟨w4,e11,z⟩:=oS z
  exact lZ z [.cell 4 34] [.agg w4] (rY e11 res_nil)
 | false =>
  refine oU z fun z=>?_
  refine oZ (n4 ?_)
  refine oH fun n12 q12=>?_
  refine oG fun n13=>W.r ?_
  refine oA 9 t1 ?_
  refine oM 10 32 34 z fun t10 z=>?_
  refine oB 11 z fun t11 z=>?_
  refine oV [(0,.int .i64 t0),(1,t1),(4,newP h),(11,.bool t11)] (n13 ?_)
  cases t11 with
  |true=>
   refine oT z fun z=>?_
   refine oG fun n16=>W.r ?_
   refine oA 12 t1 ?_
   refine oP 13 32 34 .i64 z fun t13 z=>?_
   refine oR 14 34 z fun t14 z=>?_
   refine oW 34 (.agg t14) z fun h_19 z=>?_
   refine oV [(4,newP h)] (n16 (oY (q12 ?_)))
   obtain⟨w4_22,e21,z⟩:=oS z
   exact lZ z [.cell 4 34] [.agg w4_22] (rY e21 res_nil)
  |false=>
   refine oU z fun z=>?_
   refine oZ (n12 ?_)
   refine oG fun n23=>W.r ?_
   refine oA 15 (.int .i64 t0) ?_
   refine oA 16 t1 ?_
   obtain⟨t17,e24,z⟩:=oS z
   refine WL.val (d:=(some 17)) (v:=.agg t17) (h':=h_2) (by kernel_rfl) (by kernel_rfl) (bld_ok (by kernel_rfl) e24) ?_
   refine oW 34 (.agg t17) z fun h_25 z=>?_
   refine oV [(4,newP h)] (n23 (oY ?_))
   obtain⟨w4_28,e27,z⟩:=oS z
   exact lZ z [.cell 4 34] [.agg w4_28] (rY e27 res_nil)
set_option maxHeartbeats 4000000
set_option maxRecDepth 20000
noncomputable def ref09_alts_L0b(call:CallF)(t0:Bytes)(h:AHeap)(self:Int→AV→AHeap→R)(t1_7:Int)(t7:AV)(h_8:AHeap):R:=
 callN (call 46 [strA t0,.int .i64 t1_7] h_8) fun r14 h_11=>
 obind (extT 0 r14) fun v15=>
 obind (avAgg v15) fun t15=>
 obind (extT 1 r14) fun v16=>
 obind (avInt .i64 v16) fun t16=>
 obind (extT 2 r14) fun v17=>
 obind (avBool v17) fun t17=>
 lett (newH h_11 34 [.int .i64 0,.int .u64 0,.int .u64 0,.int .u64 0,.int .u64 0,.nsl]) fun h_19=>
 obind (stRow h_19 6 t15 (newP h_11)) fun h_21=>
 lett (!t17) fun (t19:Bool)=>
 ifB t19
 (
  obind (stRow h_21 6 ([.int .i64 0,.int .u64 0,.int .u64 0,.int .u64 0,.int .u64 0,.nsl]:List AV) (newP h)) fun h_27=>
  obind (ldRow h_27 6 (newP h)) fun w4=>
  some (.ret (.tup [.agg w4,.int .i64 t16,.bool false]),h_27))
 (
  obind (ldRow h_21 6 (newP h_11)) fun t23=>
  outK (bldSl Pg h_21 32 1 [(0,.agg t23)]) fun v24 h_32=>
  outK (opAppend Pg h_32 32 32 t7 v24) fun v25 h_34=>
  lett ((t16:Int) == (lenS t0)) fun (t29:Bool)=>
  lett (fun (t35:Bool) (h_39:AHeap)=>
   ifB t35
   (
    callN (call 44 [.int .i64 4,v25] h_39) fun r37 h_43=>
    obind (avAgg r37) fun t37=>
    obind (stRow h_43 6 t37 (newP h)) fun h_46=>
    obind (ldRow h_46 6 (newP h)) fun w4_49=>
    some (.ret (.tup [.agg w4_49,.int .i64 t16,.bool true]),h_46))
   (
    lett (IntKind.i64.wrap (t16+1)) fun (t40:Int)=>
    self t40 v25 h_39)) fun j35=>
  ifB t29
  (
   j35 true h_34)
  (
   obind (idxS t0 t16) fun t33=>
   lett ((t33:Int) != 124) fun (t34:Bool)=>
   j35 t34 h_34))
noncomputable def ref09_alts_L0(call:CallF)(t0:Bytes)(h:AHeap):Nat→Int→AV→AHeap→R:=iterR (fun _ _ _=>none) (ref09_alts_L0b call t0 h)
theorem ref09_alts_L0_s(call:CallF)(t0:Bytes)(h:AHeap)(m:Nat):ref09_alts_L0 call t0 h (m+1)=ref09_alts_L0b call t0 h (ref09_alts_L0 call t0 h m):=rfl
noncomputable def ref09_alts(call:CallF)(n:Nat)(t0:Bytes)(t1:Int)(h:AHeap):R:=
 lett (newH h 34 [.int .i64 0,.int .u64 0,.int .u64 0,.int .u64 0,.int .u64 0,.nsl]) fun h_2=>
 ref09_alts_L0 call t0 h n t1 AV.nsl h_2
theorem ref09_alts_ok{call:CallF}(hc:SaysAll Pg call){n:Nat}{t0:Bytes}{t1:Int}{h:AHeap}{rR:ARes}{hR:AHeap}(z:ref09_alts call n t0 t1 h=some (rR,hR)):Says Pg 30 [strA t0,.int .i64 t1] h rR hR:=by
 unfold ref09_alts at z
 refine sO Tryd.func30 fun w0 m0=>?_
 refine wW [(0,strA t0),(1,.int .i64 t1)] ?_
 refine oG fun n1=>W.r ?_
 refine oN 4 z fun h_2 z=>?_
 refine oA 5 (.int .i64 0) ?_
 refine oA 6 (.bool false) ?_
 refine oV [(0,strA t0),(1,.int .i64 t1),(4,newP h)] (n1 ?_)
 refine oG fun n4=>W.r ?_
 refine oA 7 AV.nsl ?_
 refine oV [(0,strA t0),(1,.int .i64 t1),(4,newP h),(7,AV.nsl)] (n4 ?_)
 refine W.blockK (by kernel_rfl) (fun K5 n5 s5 o5 q5 p5=>?_)
 refine W.loopK (by kernel_rfl) (fun I6 K6 b6 n6 e6 q6 p6=>?_)
 have L6:∀(m:Nat) (t1_7:Int) (t7:AV) (h_8:AHeap),ref09_alts_L0 call t0 h m t1_7 t7 h_8=some (rR,hR)→Go w0 m0 (Func.ntmps Tryd.f30) I6 [(0,strA t0),(1,.int .i64 t1_7),(4,newP h),(7,t7)] [] h_8:=by
  intro m
  induction m with
  |zero=>intro t1_7 t7 h_8 z;cases z
  | succ m ih6 =>
   intro t1_7 t7 h_8 z
   rw[ref09_alts_L0_s] at z;unfold ref09_alts_L0b at z
   refine b6 ?_
   refine W.blockK (by kernel_rfl) (fun K9 n9 s9 o9 q9 p9=>?_)
   refine oG fun n10=>W.r ?_
   refine oA 12 (strA t0) ?_
   refine oA 13 (.int .i64 t1_7) ?_
   refine oC hc (some 14) z fun r14 h_11 z=>?_
   refine oA 11 r14 ?_
   refine oEa 15 z fun t15 z=>?_
   refine oEi 16 z fun t16 z=>?_
   refine oEb 17 z fun t17 z=>?_
   refine oN 8 z fun h_19 z=>?_
   refine oW 34 (.agg t15) z fun h_21 z=>?_
   refine oA 9 (.int .i64 t16) ?_
   refine oA 10 (.bool t17) ?_
   refine oV [(0,strA t0),(4,newP h),(7,t7),(8,newP h_11),(9,.int .i64 t16),(10,.bool t17)] (n10 ?_)
   refine oH fun n23 q23=>?_
   refine oG fun n24=>W.r ?_
   refine oA 18 (.bool t17) ?_
   refine oB 19 z fun t19 z=>?_
   refine oV [(0,strA t0),(4,newP h),(7,t7),(8,newP h_11),(9,.int .i64 t16),(19,.bool t19)] (n24 ?_)
   cases t19 with
   |true=>
    refine oT z fun z=>?_
    refine oG fun n26=>W.r ?_
    refine oA 20 (.agg ([.int .i64 0,.int .u64 0,.int .u64 0,.int .u64 0,.int .u64 0,.nsl]:List AV)) ?_
    refine oA 21 (.int .i64 t16) ?_
    refine oW 34 (.agg ([.int .i64 0,.int .u64 0,.int .u64 0,.int .u64 0,.int .u64 0,.nsl]:List AV)) z fun h_27 z=>?_
    refine oA 5 (.int .i64 t16) ?_
    refine oA 6 (.bool false) ?_
    refine oV [(4,newP h),(5,.int .i64 t16),(6,.bool false)] (n26 (oY (q23 (q9 (q6 (q5 ?_))))))
    obtain⟨w4,e29,z⟩:=oS z
    exact lZ z [.cell 4 34,.tmp 5,.tmp 6] [.agg w4,.int .i64 t16,.bool false] (rY e29 (rT (rT res_nil)))
   | false =>
    refine oU z fun z=>?_
    refine oZ (n23 ?_)
    refine oG fun n30=>W.r ?_
    refine oA 22 t7 ?_
    refine oR 23 34 z fun t23 z=>?_
    refine oK 24 z fun v24 h_32 z=>?_
    refine oK 25 z fun v25 h_34 z=>?_
    refine oA 7 v25 ?_
    refine oV [(0,strA t0),(4,newP h),(7,v25),(9,.int .i64 t16)] (n30 ?_)
    refine oH fun n36 q36=>?_
    refine W.s (fun K37 n37 _ _ _=>?_)
    refine W.r ?_
    refine oA 26 (.int .i64 t16) ?_
    refine oA 27 (strA t0) ?_
    refine oA 28 (.int .i64 (lenS t0)) ?_
    refine oB 29 z fun t29 z=>?_
    refine oA 30 (.bool t29) ?_
    obtain⟨j35,e40,z⟩:=lS z
    have J41:∀(t35:Bool) (h_39:AHeap),j35 t35 h_39=some (rR,hR)→WL Pg w0 m0 (Func.ntmps Tryd.f30) (Code.ops (Code.p1 (Code.p1 (Code.p2 (Code.p2 (Code.p2 (Code.p1 (Code.p1 (Code.p1 (Code.p2 (Code.p2 (codeOf Tryd.f30)))))))))))) 10 K37 [(0,strA t0),(4,newP h),(7,v25),(9,.int .i64 t16),(35,.bool t35)] [] h_39:=by
     intro t35 h_39 z
     rw[e40] at z
     refine oV [(0,strA t0),(4,newP h),(7,v25),(9,.int .i64 t16),(35,.bool t35)] (n37 ?_)
     cases t35 with
     |true=>
      refine oT z fun z=>?_
      refine oG fun n42=>W.r ?_
      refine oA 36 v25 ?_
      refine oCa hc 37 z fun t37 h_43 z=>?_
      refine oA 38 (.int .i64 t16) ?_
      refine oW 34 (.agg t37) z fun h_46 z=>?_
      refine oA 5 (.int .i64 t16) ?_
      refine oA 6 (.bool true) ?_
      refine oV [(4,newP h),(5,.int .i64 t16),(6,.bool true)] (n42 (oY (q36 (q9 (q6 (q5 ?_))))))
      obtain⟨w4_49,e48,z⟩:=oS z
      exact lZ z [.cell 4 34,.tmp 5,.tmp 6] [.agg w4_49,.int .i64 t16,.bool true] (rY e48 (rT (rT res_nil)))
     |false=>
      refine oU z fun z=>?_
      refine oZ (n36 (W.r ?_))
      refine oA 39 (.int .i64 t16) ?_
      refine oI 40 .i64 z fun t40 z=>?_
      refine oA 1 (.int .i64 t40) ?_
      refine oV [(0,strA t0),(1,.int .i64 t40),(4,newP h),(7,v25)] (n9 (n6 ?_))
      exact gW _ (ih6 _ _ _ z)
    cases t29 with
    |true=>
     replace z:=ifB_t z
     refine WL.o (some 31) ?_
     refine WL.o (some 32) ?_
     refine WL.o (some 33) ?_
     refine WL.o (some 34) ?_
     refine oA 35 (.bool true) ?_
     exact lW _ (J41 _ _ z)
    |false=>
     replace z:=ifB_f z
     refine oA 31 (strA t0) ?_
     refine oA 32 (.int .i64 t16) ?_
     refine oX 33 9 .i64 z fun t33 z=>?_
     refine oB 34 z fun t34 z=>?_
     refine oA 35 (.bool t34) ?_
     exact lW _ (J41 _ _ z)
 exact gW _ (L6 _ _ _ _ z)
noncomputable def ref09_row_L0b(call:CallF)(t0:Bytes)(h:AHeap)(k7:Int→AV→AHeap→R)(self:Int→AV→AHeap→R)(t1_18:Int)(t7_19:AV)(h_20:AHeap):R:=
 lett (decide (t1_18<(lenS t0))) fun (t15:Bool)=>
 lett (fun (t21 : Bool) (h_24 : AHeap) =>
  lett (fun (t27 : Bool) (h_27 : AHeap) =>
   ifB t27
   (
    callN (call 58 [strA t0,.int .i64 t1_18] h_27) fun r31 h_32=>
    obind (extT 0 r31) fun v32=>
    obind (avAgg v32) fun t32=>
    obind (extT 1 r31) fun v33=>
    obind (avInt .i64 v33) fun t33=>
    obind (extT 2 r31) fun v34=>
    obind (avBool v34) fun t34=>
    lett (newH h_32 34 [.int .i64 0,.int .u64 0,.int .u64 0,.int .u64 0,.int .u64 0,.nsl]) fun h_40=>
    obind (stRow h_40 6 t32 (newP h_32)) fun h_42=>
    lett (!t34) fun (t36:Bool)=>
    ifB t36
    (
     obind (stRow h_42 6 ([.int .i64 0,.int .u64 0,.int .u64 0,.int .u64 0,.int .u64 0,.nsl]:List AV) (newP h)) fun h_48=>
     obind (ldRow h_48 6 (newP h)) fun w4_51=>
     some (.ret (.tup [.agg w4_51,.int .i64 t33,.bool false]),h_48))
    (
     lett (decide (t33<(lenS t0))) fun (t43:Bool)=>
     lett (fun (t11:Int) (h_58:AHeap)=>
      lett (decide (t11>0)) fun (t54:Bool)=>
      lett (fun (t1_63:Int) (h_64:AHeap)=>
       obind (ldRow h_64 6 (newP h_32)) fun t62=>
       outK (bldSl Pg h_64 32 1 [(0,.agg t62)]) fun v63 h_66=>
       outK (opAppend Pg h_66 32 32 t7_19 v63) fun v64 h_68=>
       self t1_63 v64 h_68) fun k62=>
      ifB t54
      (
       obind (ldRow h_58 6 (newP h_32)) fun t56=>
       outK (bldSl Pg h_58 32 1 [(0,.agg t56)]) fun v57 h_72=>
       obind (bldS Pg 34 [(0,.int .i64 t11),(2,v57)]) fun t58=>
       obind (stRow h_72 6 t58 (newP h_32)) fun h_75=>
       lett (IntKind.i64.wrap (t33+1)) fun (t60:Int)=>
       k62 t60 h_75)
      (
       k62 t33 h_58)) fun k57=>
     ifB t43
     (
      obind (idxS t0 t33) fun t46=>
      lett ((t46:Int) == 42) fun (t48:Bool)=>
      lett (fun (t11_84:Int) (h_85:AHeap)=>
       k57 t11_84 h_85) fun k83=>
      ifB t48
      (
       k83 5 h_42)
      (
       lett ((t46:Int) == 43) fun (t50:Bool)=>
       lett (fun (t11_89:Int) (h_90:AHeap)=>
        k83 t11_89 h_90) fun k88=>
       ifB t50
       (
        k88 6 h_42)
       (
        lett ((t46:Int) == 63) fun (t52:Bool)=>
        lett (fun (t11_94:Int) (h_95:AHeap)=>
         k88 t11_94 h_95) fun k93=>
        ifB t52
        (
         k93 7 h_42)
        (
         k93 0 h_42))))
     (
      k57 0 h_42)))
   (
    k7 t1_18 t7_19 h_27)) fun j27=>
  ifB t21
  (
   obind (idxS t0 t1_18) fun t25=>
   lett ((t25:Int) != 41) fun (t26:Bool)=>
   j27 t26 h_24)
  (
   j27 false h_24)) fun j21=>
 ifB t15
 (
  obind (idxS t0 t1_18) fun t19=>
  lett ((t19:Int) != 124) fun (t20:Bool)=>
  j21 t20 h_20)
 (
  j21 false h_20)
noncomputable def ref09_row_L0(call:CallF)(t0:Bytes)(h:AHeap)(k7:Int→AV→AHeap→R):Nat→Int→AV→AHeap→R:=iterR (fun _ _ _=>none) (ref09_row_L0b call t0 h k7)
theorem ref09_row_L0_s(call:CallF)(t0:Bytes)(h:AHeap)(k7:Int→AV→AHeap→R)(m:Nat):ref09_row_L0 call t0 h k7 (m+1)=ref09_row_L0b call t0 h k7 (ref09_row_L0 call t0 h k7 m):=rfl
noncomputable def ref09_row(call:CallF)(n:Nat)(t0:Bytes)(t1:Int)(h:AHeap):R:=
 lett (newH h 34 [.int .i64 0,.int .u64 0,.int .u64 0,.int .u64 0,.int .u64 0,.nsl]) fun h_2=>
 lett (fun (t1_8:Int) (t7:AV) (h_9:AHeap)=>
  callN (call 44 [.int .i64 3,t7] h_9) fun r66 h_11=>
  obind (avAgg r66) fun t66=>
  obind (stRow h_11 6 t66 (newP h)) fun h_14=>
  obind (ldRow h_14 6 (newP h)) fun w4=>
  some (.ret (.tup [.agg w4,.int .i64 t1_8,.bool true]),h_14)) fun k7=>
 ref09_row_L0 call t0 h k7 n t1 AV.nsl h_2
theorem ref09_row_ok{call:CallF}(hc:SaysAll Pg call){n:Nat}{t0:Bytes}{t1:Int}{h:AHeap}{rR:ARes}{hR:AHeap}(z:ref09_row call n t0 t1 h=some (rR,hR)):Says Pg 46 [strA t0,.int .i64 t1] h rR hR:=by
 unfold ref09_row at z
 refine sO Tryd.func46 fun w0 m0=>?_
 refine wW [(0,strA t0),(1,.int .i64 t1)] ?_
 refine oG fun n1=>W.r ?_
 refine oN 4 z fun h_2 z=>?_
 refine oA 5 (.int .i64 0) ?_
 refine oA 6 (.bool false) ?_
 refine oV [(0,strA t0),(1,.int .i64 t1),(4,newP h)] (n1 ?_)
 refine oG fun n4=>W.r ?_
 refine oA 7 AV.nsl ?_
 refine oV [(0,strA t0),(1,.int .i64 t1),(4,newP h),(7,AV.nsl)] (n4 ?_)
 refine W.s (fun K5 n5 _ q5 _=>?_)
 obtain⟨k7,e7,z⟩:=lS z
 have J7:∀(t1_8:Int) (t7:AV) (h_9:AHeap),k7 t1_8 t7 h_9=some (rR,hR)→Go w0 m0 (Func.ntmps Tryd.f46) (K5 .normal) [(1,.int .i64 t1_8),(4,newP h),(7,t7)] [] h_9:=by
  intro t1_8 t7 h_9 z
  rw[e7] at z
  refine n5 ?_
  refine oG fun n10=>W.r ?_
  refine oA 65 t7 ?_
  refine oCa hc 66 z fun t66 h_11 z=>?_
  refine oA 67 (.int .i64 t1_8) ?_
  refine oW 34 (.agg t66) z fun h_14 z=>?_
  refine oA 5 (.int .i64 t1_8) ?_
  refine oA 6 (.bool true) ?_
  refine oV [(4,newP h),(5,.int .i64 t1_8),(6,.bool true)] (n10 (oY ?_))
  obtain⟨w4,e16,z⟩:=oS z
  exact lZ z [.cell 4 34,.tmp 5,.tmp 6] [.agg w4,.int .i64 t1_8,.bool true] (rY e16 (rT (rT res_nil)))
 refine W.blockK (by kernel_rfl) (fun K6 n6 s6 o6 q6 p6=>?_)
 refine W.loopK (by kernel_rfl) (fun I17 K17 b17 n17 e17 q17 p17=>?_)
 have L17 : ∀ (m : Nat) (t1_18 : Int) (t7_19 : AV) (h_20 : AHeap), ref09_row_L0 call t0 h k7 m t1_18 t7_19 h_20 = some (rR, hR) → Go w0 m0 (Func.ntmps Tryd.f46) I17 [(0, strA t0), (1, .int .i64 t1_18), (4, newP h), (7, t7_19)] [] h_20 := by
  intro m
  induction m with
  |zero=>intro t1_18 t7_19 h_20 z;cases z
  | succ m ih17 =>
   intro t1_18 t7_19 h_20 z
   rw[ref09_row_L0_s] at z;unfold ref09_row_L0b at z
   refine b17 ?_
   refine W.s (fun _ n21 e21 _ _=>?_)
   refine W.s (fun K22 n22 _ _ _=>?_)
   refine W.r ?_
   refine oA 12 (.int .i64 t1_18) ?_
   refine oA 13 (strA t0) ?_
   refine oA 14 (.int .i64 (lenS t0)) ?_
   refine oB 15 z fun t15 z=>?_
   refine oA 16 (.bool t15) ?_
   obtain⟨j21,e25,z⟩:=lS z
   have J26:∀(t21:Bool) (h_24:AHeap),j21 t21 h_24=some (rR,hR)→WL Pg w0 m0 (Func.ntmps Tryd.f46) (Code.ops (Code.p1 (Code.p1 (Code.p1 (Code.p1 (Code.p1 (Code.p2 (Code.p2 (codeOf Tryd.f46))))))))) 10 K22 [(0,strA t0),(1,.int .i64 t1_18),(4,newP h),(7,t7_19),(21,.bool t21)] [] h_24:=by
    intro t21 h_24 z
    rw[e25] at z
    refine oA 22 (.bool t21) ?_
    obtain⟨j27,e28,z⟩:=lS z
    have J29:∀(t27:Bool) (h_27:AHeap),j27 t27 h_27=some (rR,hR)→WL Pg w0 m0 (Func.ntmps Tryd.f46) (Code.ops (Code.p1 (Code.p1 (Code.p1 (Code.p1 (Code.p1 (Code.p2 (Code.p2 (codeOf Tryd.f46))))))))) 16 K22 [(0,strA t0),(1,.int .i64 t1_18),(4,newP h),(7,t7_19),(27,.bool t27)] [] h_27:=by
     intro t27 h_27 z
     rw[e28] at z
     refine oV [(0,strA t0),(1,.int .i64 t1_18),(4,newP h),(7,t7_19),(27,.bool t27)] (n22 ?_)
     cases t27 with
     | true =>
      refine oT z fun z=>?_
      refine oZ (n21 ?_)
      refine W.blockK (by kernel_rfl) (fun K30 n30 s30 o30 q30 p30=>?_)
      refine oG fun n31=>W.r ?_
      refine oA 29 (strA t0) ?_
      refine oA 30 (.int .i64 t1_18) ?_
      refine oC hc (some 31) z fun r31 h_32 z=>?_
      refine oA 28 r31 ?_
      refine oEa 32 z fun t32 z=>?_
      refine oEi 33 z fun t33 z=>?_
      refine oEb 34 z fun t34 z=>?_
      refine oN 8 z fun h_40 z=>?_
      refine oW 34 (.agg t32) z fun h_42 z=>?_
      refine oA 9 (.int .i64 t33) ?_
      refine oA 10 (.bool t34) ?_
      refine oV [(0,strA t0),(4,newP h),(7,t7_19),(8,newP h_32),(9,.int .i64 t33),(10,.bool t34)] (n31 ?_)
      refine oH fun n44 q44=>?_
      refine oG fun n45=>W.r ?_
      refine oA 35 (.bool t34) ?_
      refine oB 36 z fun t36 z=>?_
      refine oV [(0,strA t0),(4,newP h),(7,t7_19),(8,newP h_32),(9,.int .i64 t33),(36,.bool t36)] (n45 ?_)
      cases t36 with
      |true=>
       refine oT z fun z=>?_
       refine oG fun n47=>W.r ?_
       refine oA 37 (.agg ([.int .i64 0,.int .u64 0,.int .u64 0,.int .u64 0,.int .u64 0,.nsl]:List AV)) ?_
       refine oA 38 (.int .i64 t33) ?_
       refine oW 34 (.agg ([.int .i64 0,.int .u64 0,.int .u64 0,.int .u64 0,.int .u64 0,.nsl]:List AV)) z fun h_48 z=>?_
       refine oA 5 (.int .i64 t33) ?_
       refine oA 6 (.bool false) ?_
       refine oV [(4,newP h),(5,.int .i64 t33),(6,.bool false)] (n47 (oY (q44 (q30 (q17 (q6 (q5 ?_)))))))
       obtain⟨w4_51,e50,z⟩:=oS z
       exact lZ z [.cell 4 34,.tmp 5,.tmp 6] [.agg w4_51,.int .i64 t33,.bool false] (rY e50 (rT (rT res_nil)))
      | false =>
       refine oU z fun z=>?_
       refine oZ (n44 ?_)
       refine oG fun n52=>W.r ?_
       refine oA 39 (.int .i64 t33) ?_
       refine oA 1 (.int .i64 t33) ?_
       refine oV [(0,strA t0),(1,.int .i64 t33),(4,newP h),(7,t7_19),(8,newP h_32)] (n52 ?_)
       refine oG fun n53=>W.r ?_
       refine oA 11 (.int .i64 0) ?_
       refine oV [(0,strA t0),(1,.int .i64 t33),(4,newP h),(7,t7_19),(8,newP h_32),(11,.int .i64 0)] (n53 ?_)
       refine W.s (fun K54 n54 _ _ _=>?_)
       refine oG fun n55=>W.r ?_
       refine oA 40 (.int .i64 t33) ?_
       refine oA 41 (strA t0) ?_
       refine oA 42 (.int .i64 (lenS t0)) ?_
       refine oB 43 z fun t43 z=>?_
       refine oV [(0,strA t0),(1,.int .i64 t33),(4,newP h),(7,t7_19),(8,newP h_32),(11,.int .i64 0),(43,.bool t43)] (n55 ?_)
       obtain⟨k57,e57,z⟩:=lS z
       have J57:∀(t11:Int) (h_58:AHeap),k57 t11 h_58=some (rR,hR)→Go w0 m0 (Func.ntmps Tryd.f46) (K54 .normal) [(0,strA t0),(1,.int .i64 t33),(4,newP h),(7,t7_19),(8,newP h_32),(11,.int .i64 t11)] [] h_58:=by
        intro t11 h_58 z
        rw[e57] at z
        refine n54 ?_
        refine W.s (fun K59 n59 _ _ _=>?_)
        refine oG fun n60=>W.r ?_
        refine oA 53 (.int .i64 t11) ?_
        refine oB 54 z fun t54 z=>?_
        refine oV [(0,strA t0),(1,.int .i64 t33),(4,newP h),(7,t7_19),(8,newP h_32),(11,.int .i64 t11),(54,.bool t54)] (n60 ?_)
        obtain⟨k62,e62,z⟩:=lS z
        have J62:∀(t1_63:Int) (h_64:AHeap),k62 t1_63 h_64=some (rR,hR)→Go w0 m0 (Func.ntmps Tryd.f46) (K59 .normal) [(0,strA t0),(1,.int .i64 t1_63),(4,newP h),(7,t7_19),(8,newP h_32)] [] h_64:=by
         intro t1_63 h_64 z
         rw[e62] at z
         refine n59 (W.r ?_)
         refine oA 61 t7_19 ?_
         refine oR 62 34 z fun t62 z=>?_
         refine oK 63 z fun v63 h_66 z=>?_
         refine oK 64 z fun v64 h_68 z=>?_
         refine oA 7 v64 ?_
         refine oV [(0,strA t0),(1,.int .i64 t1_63),(4,newP h),(7,v64)] (n30 (n17 ?_))
         exact gW _ (ih17 _ _ _ z)
        cases t54 with
        |true=>
         refine oT z fun z=>?_
         refine oG fun n70=>W.r ?_
         refine oA 55 (.int .i64 t11) ?_
         refine oR 56 34 z fun t56 z=>?_
         refine oK 57 z fun v57 h_72 z=>?_
         obtain⟨t58,e74,z⟩:=oS z
         refine WL.val (d:=(some 58)) (v:=.agg t58) (h':=h_72) (by kernel_rfl) (by kernel_rfl) (bld_ok (by kernel_rfl) e74) ?_
         refine oW 34 (.agg t58) z fun h_75 z=>?_
         refine oV [(0,strA t0),(1,.int .i64 t33),(4,newP h),(7,t7_19),(8,newP h_32)] (n70 (W.r ?_))
         refine oA 59 (.int .i64 t33) ?_
         refine oI 60 .i64 z fun t60 z=>?_
         refine oA 1 (.int .i64 t60) ?_
         refine oV [(0,strA t0),(1,.int .i64 t60),(4,newP h),(7,t7_19),(8,newP h_32)] ?_
         exact gW _ (J62 _ _ z)
        |false=>
         refine oU z fun z=>?_
         refine oZ ?_
         exact gW _ (J62 _ _ z)
       cases t43 with
       | true =>
        refine oT z fun z=>?_
        refine oG fun n78=>W.r ?_
        refine oA 44 (strA t0) ?_
        refine oA 45 (.int .i64 t33) ?_
        refine oX 46 9 .i64 z fun t46 z=>?_
        refine oV [(0,strA t0),(1,.int .i64 t33),(4,newP h),(7,t7_19),(8,newP h_32),(11,.int .i64 0),(46,.int .u8 t46)] (n78 ?_)
        refine W.blockK (by kernel_rfl) (fun K80 n80 s80 o80 q80 p80=>?_)
        refine oG fun n81=>W.r ?_
        refine oB 48 z fun t48 z=>?_
        refine oA 47 (.bool t48) ?_
        refine oV [(0,strA t0),(1,.int .i64 t33),(4,newP h),(7,t7_19),(8,newP h_32),(11,.int .i64 0),(46,.int .u8 t46),(47,.bool t48)] (n81 ?_)
        obtain⟨k83,e83,z⟩:=lS z
        have J83:∀(t11_84:Int) (h_85:AHeap),k83 t11_84 h_85=some (rR,hR)→Go w0 m0 (Func.ntmps Tryd.f46) (K80 .normal) [(0,strA t0),(1,.int .i64 t33),(4,newP h),(7,t7_19),(8,newP h_32),(11,.int .i64 t11_84)] [] h_85:=by
         intro t11_84 h_85 z
         rw[e83] at z
         refine n80 ?_
         exact gW _ (J57 _ _ z)
        cases t48 with
        |true=>
         refine oT z fun z=>?_
         refine W.r ?_
         refine oA 11 (.int .i64 5) ?_
         refine oV [(0,strA t0),(1,.int .i64 t33),(4,newP h),(7,t7_19),(8,newP h_32),(11,.int .i64 5)] ?_
         exact gW _ (J83 _ _ z)
        | false =>
         refine oU z fun z=>?_
         refine oG fun n86=>W.r ?_
         refine oB 50 z fun t50 z=>?_
         refine oA 49 (.bool t50) ?_
         refine oV [(0,strA t0),(1,.int .i64 t33),(4,newP h),(7,t7_19),(8,newP h_32),(11,.int .i64 0),(46,.int .u8 t46),(49,.bool t50)] (n86 ?_)
         obtain⟨k88,e88,z⟩:=lS z
         have J88:∀(t11_89:Int) (h_90:AHeap),k88 t11_89 h_90=some (rR,hR)→Go w0 m0 (Func.ntmps Tryd.f46) (K80 .normal) [(0,strA t0),(1,.int .i64 t33),(4,newP h),(7,t7_19),(8,newP h_32),(11,.int .i64 t11_89)] [] h_90:=by
          intro t11_89 h_90 z
          rw[e88] at z
          exact gW _ (J83 _ _ z)
         cases t50 with
         |true=>
          refine oT z fun z=>?_
          refine W.r ?_
          refine oA 11 (.int .i64 6) ?_
          refine oV [(0,strA t0),(1,.int .i64 t33),(4,newP h),(7,t7_19),(8,newP h_32),(11,.int .i64 6)] ?_
          exact gW _ (J88 _ _ z)
         | false =>
          refine oU z fun z=>?_
          refine oG fun n91=>W.r ?_
          refine oB 52 z fun t52 z=>?_
          refine oA 51 (.bool t52) ?_
          refine oV [(0,strA t0),(1,.int .i64 t33),(4,newP h),(7,t7_19),(8,newP h_32),(11,.int .i64 0),(51,.bool t52)] (n91 ?_)
          obtain⟨k93,e93,z⟩:=lS z
          have J93:∀(t11_94:Int) (h_95:AHeap),k93 t11_94 h_95=some (rR,hR)→Go w0 m0 (Func.ntmps Tryd.f46) (K80 .normal) [(0,strA t0),(1,.int .i64 t33),(4,newP h),(7,t7_19),(8,newP h_32),(11,.int .i64 t11_94)] [] h_95:=by
           intro t11_94 h_95 z
           rw[e93] at z
           exact gW _ (J88 _ _ z)
          cases t52 with
          |true=>
           refine oT z fun z=>?_
           refine W.r ?_
           refine oA 11 (.int .i64 7) ?_
           refine oV [(0,strA t0),(1,.int .i64 t33),(4,newP h),(7,t7_19),(8,newP h_32),(11,.int .i64 7)] ?_
           exact gW _ (J93 _ _ z)
          |false=>
           refine oU z fun z=>?_
           refine oZ ?_
           exact gW _ (J93 _ _ z)
       |false=>
        refine oU z fun z=>?_
        refine oZ ?_
        exact gW _ (J57 _ _ z)
     |false=>
      refine oU z fun z=>?_
      refine W.exit (by kernel_rfl) ?_
      refine e21 (e17 ?_)
      refine s6 (by kernel_rfl) ?_
      exact gW _ (J7 _ _ _ z)
    cases t21 with
    |true=>
     replace z:=ifB_t z
     refine oA 23 (strA t0) ?_
     refine oA 24 (.int .i64 t1_18) ?_
     refine oX 25 9 .i64 z fun t25 z=>?_
     refine oB 26 z fun t26 z=>?_
     refine oA 27 (.bool t26) ?_
     exact lW _ (J29 _ _ z)
    |false=>
     replace z:=ifB_f z
     refine WL.o (some 23) ?_
     refine WL.o (some 24) ?_
     refine WL.o (some 25) ?_
     refine WL.o (some 26) ?_
     refine oA 27 (.bool false) ?_
     exact lW _ (J29 _ _ z)
   cases t15 with
   |true=>
    replace z:=ifB_t z
    refine oA 17 (strA t0) ?_
    refine oA 18 (.int .i64 t1_18) ?_
    refine oX 19 9 .i64 z fun t19 z=>?_
    refine oB 20 z fun t20 z=>?_
    refine oA 21 (.bool t20) ?_
    exact lW _ (J26 _ _ z)
   |false=>
    replace z:=ifB_f z
    refine WL.o (some 17) ?_
    refine WL.o (some 18) ?_
    refine WL.o (some 19) ?_
    refine WL.o (some 20) ?_
    refine oA 21 (.bool false) ?_
    exact lW _ (J26 _ _ z)
 exact gW _ (L17 _ _ _ _ z)
noncomputable def ref09_atom(call:CallF)(_:Nat)(t0:Bytes)(t1:Int)(h:AHeap):R:=
 lett (newH h 34 [.int .i64 0,.int .u64 0,.int .u64 0,.int .u64 0,.int .u64 0,.nsl]) fun h_2=>
 obind (idxS t0 t1) fun t12=>
 lett ((t12:Int) == 40) fun (t14:Bool)=>
 ifB t14
 (
  lett (IntKind.i64.wrap (t1+1)) fun (t18:Int)=>
  callN (call 30 [strA t0,.int .i64 t18] h_2) fun r19 h_12=>
  obind (extT 0 r19) fun v20=>
  obind (avAgg v20) fun t20=>
  obind (extT 1 r19) fun v21=>
  obind (avInt .i64 v21) fun t21=>
  obind (extT 2 r19) fun v22=>
  obind (avBool v22) fun t22=>
  lett (newH h_12 34 [.int .i64 0,.int .u64 0,.int .u64 0,.int .u64 0,.int .u64 0,.nsl]) fun h_20=>
  obind (stRow h_20 6 t20 (newP h_12)) fun h_22=>
  lett (!t22) fun (t24:Bool)=>
  ifB t24
  (
   obind (ldRow h_22 6 (newP h_12)) fun t25=>
   obind (stRow h_22 6 t25 (newP h)) fun h_29=>
   obind (ldRow h_29 6 (newP h)) fun w4=>
   some (.ret (.tup [.agg w4,.int .i64 t21,.bool false]),h_29))
  (
   lett ((t21:Int) == (lenS t0)) fun (t30:Bool)=>
   ifB t30
   (
    obind (stRow h_22 6 ([.int .i64 0,.int .u64 0,.int .u64 0,.int .u64 0,.int .u64 0,.nsl]:List AV) (newP h)) fun h_36=>
    obind (ldRow h_36 6 (newP h)) fun w4_39=>
    some (.ret (.tup [.agg w4_39,.int .i64 t21,.bool false]),h_36))
   (
    obind (ldRow h_22 6 (newP h_12)) fun t33=>
    lett (IntKind.i64.wrap (t21+1)) fun (t35:Int)=>
    obind (stRow h_22 6 t33 (newP h)) fun h_43=>
    obind (ldRow h_43 6 (newP h)) fun w4_46=>
    some (.ret (.tup [.agg w4_46,.int .i64 t35,.bool true]),h_43))))
 (
  lett ((t12:Int) == 91) fun (t37:Bool)=>
  ifB t37
  (
   lett (IntKind.i64.wrap (t1+1)) fun (t40:Int)=>
   callN (call 68 [strA t0,.int .i64 t40] h_2) fun r41 h_51=>
   obind (extT 0 r41) fun v42=>
   obind (avAgg v42) fun t42=>
   obind (extT 1 r41) fun v43=>
   obind (avInt .i64 v43) fun t43=>
   obind (extT 2 r41) fun v44=>
   obind (avBool v44) fun t44=>
   obind (stRow h_51 6 t42 (newP h)) fun h_59=>
   obind (ldRow h_59 6 (newP h)) fun w4_62=>
   some (.ret (.tup [.agg w4_62,.int .i64 t43,.bool t44]),h_59))
  (
   lett ((t12:Int) == 46) fun (t46:Bool)=>
   ifB t46
   (
    callN (call 45 [] h_2) fun r47 h_66=>
    obind (avAgg r47) fun t47=>
    lett (IntKind.i64.wrap (t1+1)) fun (t49:Int)=>
    obind (stRow h_66 6 t47 (newP h)) fun h_70=>
    obind (ldRow h_70 6 (newP h)) fun w4_73=>
    some (.ret (.tup [.agg w4_73,.int .i64 t49,.bool true]),h_70))
   (
    lett ((t12:Int) == 42) fun (t51:Bool)=>
    lett (fun (t50:Bool) (h_78:AHeap)=>
     ifB t50
     (
      obind (stRow h_78 6 ([.int .i64 0,.int .u64 0,.int .u64 0,.int .u64 0,.int .u64 0,.nsl]:List AV) (newP h)) fun h_80=>
      obind (ldRow h_80 6 (newP h)) fun w4_83=>
      some (.ret (.tup [.agg w4_83,.int .i64 t1,.bool false]),h_80))
     (
      lett ((t12:Int) == 92) fun (t58:Bool)=>
      ifB t58
      (
       lett (IntKind.i64.wrap (t1+1)) fun (t60:Int)=>
       lett ((t60:Int) == (lenS t0)) fun (t63:Bool)=>
       ifB t63
       (
        lett (IntKind.i64.wrap (t1+1)) fun (t66:Int)=>
        obind (stRow h_78 6 ([.int .i64 0,.int .u64 0,.int .u64 0,.int .u64 0,.int .u64 0,.nsl]:List AV) (newP h)) fun h_92=>
        obind (ldRow h_92 6 (newP h)) fun w4_95=>
        some (.ret (.tup [.agg w4_95,.int .i64 t66,.bool false]),h_92))
       (
        lett (IntKind.i64.wrap (t1+1)) fun (t69:Int)=>
        obind (idxS t0 t69) fun t70=>
        callN (call 43 [.int .u8 t70] h_78) fun r71 h_99=>
        obind (avAgg r71) fun t71=>
        lett (IntKind.i64.wrap (t1+2)) fun (t73:Int)=>
        obind (stRow h_99 6 t71 (newP h)) fun h_103=>
        obind (ldRow h_103 6 (newP h)) fun w4_106=>
        some (.ret (.tup [.agg w4_106,.int .i64 t73,.bool true]),h_103)))
      (
       obind (idxS t0 t1) fun t76=>
       callN (call 43 [.int .u8 t76] h_78) fun r77 h_109=>
       obind (avAgg r77) fun t77=>
       lett (IntKind.i64.wrap (t1+1)) fun (t79:Int)=>
       obind (stRow h_109 6 t77 (newP h)) fun h_113=>
       obind (ldRow h_113 6 (newP h)) fun w4_116=>
       some (.ret (.tup [.agg w4_116,.int .i64 t79,.bool true]),h_113)))) fun k77=>
    ifB t51
    (
     k77 true h_2)
    (
     lett ((t12:Int) == 43) fun (t52:Bool)=>
     lett (fun (t50_120:Bool) (h_121:AHeap)=>
      k77 t50_120 h_121) fun k119=>
     ifB t52
     (
      k119 true h_2)
     (
      lett ((t12:Int) == 63) fun (t53:Bool)=>
      lett (fun (t50_125:Bool) (h_126:AHeap)=>
       k119 t50_125 h_126) fun k124=>
      ifB t53
      (
       k124 true h_2)
      (
       lett ((t12:Int) == 93) fun (t54:Bool)=>
       k124 t54 h_2))))))
theorem ref09_atom_ok{call:CallF}(hc:SaysAll Pg call){n:Nat}{t0:Bytes}{t1:Int}{h:AHeap}{rR:ARes}{hR:AHeap}(z:ref09_atom call n t0 t1 h=some (rR,hR)):Says Pg 58 [strA t0,.int .i64 t1] h rR hR:=by
 unfold ref09_atom at z
 refine sO Tryd.func58 fun w0 m0=>?_
 refine wW [(0,strA t0),(1,.int .i64 t1)] ?_
 refine oG fun n1=>W.r ?_
 refine oN 4 z fun h_2 z=>?_
 refine oA 5 (.int .i64 0) ?_
 refine oA 6 (.bool false) ?_
 refine oV [(0,strA t0),(1,.int .i64 t1),(4,newP h)] (n1 ?_)
 refine oH fun n4 q4=>?_
 refine oG fun n5=>W.r ?_
 refine oA 10 (strA t0) ?_
 refine oA 11 (.int .i64 t1) ?_
 refine oX 12 9 .i64 z fun t12 z=>?_
 refine oV [(0,strA t0),(1,.int .i64 t1),(4,newP h),(12,.int .u8 t12)] (n5 ?_)
 refine W.blockK (by kernel_rfl) (fun K7 n7 s7 o7 q7 p7=>?_)
 refine oG fun n8=>W.r ?_
 refine oB 14 z fun t14 z=>?_
 refine oA 13 (.bool t14) ?_
 refine oV [(0,strA t0),(1,.int .i64 t1),(4,newP h),(12,.int .u8 t12),(13,.bool t14)] (n8 ?_)
 cases t14 with
 | true =>
  refine oT z fun z=>?_
  refine oG fun n10=>W.r ?_
  refine oA 16 (strA t0) ?_
  refine oA 17 (.int .i64 t1) ?_
  refine oI 18 .i64 z fun t18 z=>?_
  refine oC hc (some 19) z fun r19 h_12 z=>?_
  refine oA 15 r19 ?_
  refine oEa 20 z fun t20 z=>?_
  refine oEi 21 z fun t21 z=>?_
  refine oEb 22 z fun t22 z=>?_
  refine oN 7 z fun h_20 z=>?_
  refine oW 34 (.agg t20) z fun h_22 z=>?_
  refine oA 8 (.int .i64 t21) ?_
  refine oA 9 (.bool t22) ?_
  refine oV [(0,strA t0),(4,newP h),(7,newP h_12),(8,.int .i64 t21),(9,.bool t22)] (n10 ?_)
  refine oH fun n24 q24=>?_
  refine oG fun n25=>W.r ?_
  refine oA 23 (.bool t22) ?_
  refine oB 24 z fun t24 z=>?_
  refine oV [(0,strA t0),(4,newP h),(7,newP h_12),(8,.int .i64 t21),(24,.bool t24)] (n25 ?_)
  cases t24 with
  |true=>
   refine oT z fun z=>?_
   refine oG fun n27=>W.r ?_
   refine oR 25 34 z fun t25 z=>?_
   refine oA 26 (.int .i64 t21) ?_
   refine oW 34 (.agg t25) z fun h_29 z=>?_
   refine oA 5 (.int .i64 t21) ?_
   refine oA 6 (.bool false) ?_
   refine oV [(4,newP h),(5,.int .i64 t21),(6,.bool false)] (n27 (oY (q24 (q7 (q4 ?_)))))
   obtain⟨w4,e31,z⟩:=oS z
   exact lZ z [.cell 4 34,.tmp 5,.tmp 6] [.agg w4,.int .i64 t21,.bool false] (rY e31 (rT (rT res_nil)))
  | false =>
   refine oU z fun z=>?_
   refine oZ (n24 ?_)
   refine oH fun n32 q32=>?_
   refine oG fun n33=>W.r ?_
   refine oA 27 (.int .i64 t21) ?_
   refine oA 28 (strA t0) ?_
   refine oA 29 (.int .i64 (lenS t0)) ?_
   refine oB 30 z fun t30 z=>?_
   refine oV [(4,newP h),(7,newP h_12),(8,.int .i64 t21),(30,.bool t30)] (n33 ?_)
   cases t30 with
   |true=>
    refine oT z fun z=>?_
    refine oG fun n35=>W.r ?_
    refine oA 31 (.agg ([.int .i64 0,.int .u64 0,.int .u64 0,.int .u64 0,.int .u64 0,.nsl]:List AV)) ?_
    refine oA 32 (.int .i64 t21) ?_
    refine oW 34 (.agg ([.int .i64 0,.int .u64 0,.int .u64 0,.int .u64 0,.int .u64 0,.nsl]:List AV)) z fun h_36 z=>?_
    refine oA 5 (.int .i64 t21) ?_
    refine oA 6 (.bool false) ?_
    refine oV [(4,newP h),(5,.int .i64 t21),(6,.bool false)] (n35 (oY (q32 (q7 (q4 ?_)))))
    obtain⟨w4_39,e38,z⟩:=oS z
    exact lZ z [.cell 4 34,.tmp 5,.tmp 6] [.agg w4_39,.int .i64 t21,.bool false] (rY e38 (rT (rT res_nil)))
   |false=>
    refine oU z fun z=>?_
    refine oZ (n32 ?_)
    refine oG fun n40=>W.r ?_
    refine oR 33 34 z fun t33 z=>?_
    refine oA 34 (.int .i64 t21) ?_
    refine oI 35 .i64 z fun t35 z=>?_
    refine oW 34 (.agg t33) z fun h_43 z=>?_
    refine oA 5 (.int .i64 t35) ?_
    refine oA 6 (.bool true) ?_
    refine oV [(4,newP h),(5,.int .i64 t35),(6,.bool true)] (n40 (oY (q7 (q4 ?_))))
    obtain⟨w4_46,e45,z⟩:=oS z
    exact lZ z [.cell 4 34,.tmp 5,.tmp 6] [.agg w4_46,.int .i64 t35,.bool true] (rY e45 (rT (rT res_nil)))
 | false =>
  refine oU z fun z=>?_
  refine oG fun n47=>W.r ?_
  refine oB 37 z fun t37 z=>?_
  refine oA 36 (.bool t37) ?_
  refine oV [(0,strA t0),(1,.int .i64 t1),(4,newP h),(12,.int .u8 t12),(36,.bool t37)] (n47 ?_)
  cases t37 with
  |true=>
   refine oT z fun z=>?_
   refine oG fun n49=>W.r ?_
   refine oA 38 (strA t0) ?_
   refine oA 39 (.int .i64 t1) ?_
   refine oI 40 .i64 z fun t40 z=>?_
   refine oC hc (some 41) z fun r41 h_51 z=>?_
   refine oEa 42 z fun t42 z=>?_
   refine oEi 43 z fun t43 z=>?_
   refine oEb 44 z fun t44 z=>?_
   refine oW 34 (.agg t42) z fun h_59 z=>?_
   refine oA 5 (.int .i64 t43) ?_
   refine oA 6 (.bool t44) ?_
   refine oV [(4,newP h),(5,.int .i64 t43),(6,.bool t44)] (n49 (oY (q7 (q4 ?_))))
   obtain⟨w4_62,e61,z⟩:=oS z
   exact lZ z [.cell 4 34,.tmp 5,.tmp 6] [.agg w4_62,.int .i64 t43,.bool t44] (rY e61 (rT (rT res_nil)))
  | false =>
   refine oU z fun z=>?_
   refine oG fun n63=>W.r ?_
   refine oB 46 z fun t46 z=>?_
   refine oA 45 (.bool t46) ?_
   refine oV [(0,strA t0),(1,.int .i64 t1),(4,newP h),(12,.int .u8 t12),(45,.bool t46)] (n63 ?_)
   cases t46 with
   |true=>
    refine oT z fun z=>?_
    refine oG fun n65=>W.r ?_
    refine oCa hc 47 z fun t47 h_66 z=>?_
    refine oA 48 (.int .i64 t1) ?_
    refine oI 49 .i64 z fun t49 z=>?_
    refine oW 34 (.agg t47) z fun h_70 z=>?_
    refine oA 5 (.int .i64 t49) ?_
    refine oA 6 (.bool true) ?_
    refine oV [(4,newP h),(5,.int .i64 t49),(6,.bool true)] (n65 (oY (q7 (q4 ?_))))
    obtain⟨w4_73,e72,z⟩:=oS z
    exact lZ z [.cell 4 34,.tmp 5,.tmp 6] [.agg w4_73,.int .i64 t49,.bool true] (rY e72 (rT (rT res_nil)))
   | false =>
    refine oU z fun z=>?_
    refine W.s (fun K74 n74 _ _ _=>?_)
    refine oG fun n75=>W.r ?_
    refine oB 51 z fun t51 z=>?_
    refine oA 50 (.bool t51) ?_
    refine oV [(0,strA t0),(1,.int .i64 t1),(4,newP h),(12,.int .u8 t12),(50,.bool t51)] (n75 ?_)
    obtain⟨k77,e77,z⟩:=lS z
    have J77:∀(t50:Bool) (h_78:AHeap),k77 t50 h_78=some (rR,hR)→Go w0 m0 (Func.ntmps Tryd.f58) (K74 .normal) [(0,strA t0),(1,.int .i64 t1),(4,newP h),(12,.int .u8 t12),(50,.bool t50)] [] h_78:=by
     intro t50 h_78 z
     rw[e77] at z
     refine n74 ?_
     cases t50 with
     |true=>
      refine oT z fun z=>?_
      refine oG fun n79=>W.r ?_
      refine oA 55 (.agg ([.int .i64 0,.int .u64 0,.int .u64 0,.int .u64 0,.int .u64 0,.nsl]:List AV)) ?_
      refine oA 56 (.int .i64 t1) ?_
      refine oW 34 (.agg ([.int .i64 0,.int .u64 0,.int .u64 0,.int .u64 0,.int .u64 0,.nsl]:List AV)) z fun h_80 z=>?_
      refine oA 5 (.int .i64 t1) ?_
      refine oA 6 (.bool false) ?_
      refine oV [(4,newP h),(5,.int .i64 t1),(6,.bool false)] (n79 (oY (q7 (q4 ?_))))
      obtain⟨w4_83,e82,z⟩:=oS z
      exact lZ z [.cell 4 34,.tmp 5,.tmp 6] [.agg w4_83,.int .i64 t1,.bool false] (rY e82 (rT (rT res_nil)))
     | false =>
      refine oU z fun z=>?_
      refine oG fun n84=>W.r ?_
      refine oB 58 z fun t58 z=>?_
      refine oA 57 (.bool t58) ?_
      refine oV [(0,strA t0),(1,.int .i64 t1),(4,newP h),(57,.bool t58)] (n84 ?_)
      cases t58 with
      | true =>
       refine oT z fun z=>?_
       refine oH fun n86 q86=>?_
       refine oG fun n87=>W.r ?_
       refine oA 59 (.int .i64 t1) ?_
       refine oI 60 .i64 z fun t60 z=>?_
       refine oA 61 (strA t0) ?_
       refine oA 62 (.int .i64 (lenS t0)) ?_
       refine oB 63 z fun t63 z=>?_
       refine oV [(0,strA t0),(1,.int .i64 t1),(4,newP h),(63,.bool t63)] (n87 ?_)
       cases t63 with
       |true=>
        refine oT z fun z=>?_
        refine oG fun n90=>W.r ?_
        refine oA 64 (.agg ([.int .i64 0,.int .u64 0,.int .u64 0,.int .u64 0,.int .u64 0,.nsl]:List AV)) ?_
        refine oA 65 (.int .i64 t1) ?_
        refine oI 66 .i64 z fun t66 z=>?_
        refine oW 34 (.agg ([.int .i64 0,.int .u64 0,.int .u64 0,.int .u64 0,.int .u64 0,.nsl]:List AV)) z fun h_92 z=>?_
        refine oA 5 (.int .i64 t66) ?_
        refine oA 6 (.bool false) ?_
        refine oV [(4,newP h),(5,.int .i64 t66),(6,.bool false)] (n90 (oY (q86 (q7 (q4 ?_)))))
        obtain⟨w4_95,e94,z⟩:=oS z
        exact lZ z [.cell 4 34,.tmp 5,.tmp 6] [.agg w4_95,.int .i64 t66,.bool false] (rY e94 (rT (rT res_nil)))
       |false=>
        refine oU z fun z=>?_
        refine oZ (n86 ?_)
        refine oG fun n96=>W.r ?_
        refine oA 67 (strA t0) ?_
        refine oA 68 (.int .i64 t1) ?_
        refine oI 69 .i64 z fun t69 z=>?_
        refine oX 70 9 .i64 z fun t70 z=>?_
        refine oCa hc 71 z fun t71 h_99 z=>?_
        refine oA 72 (.int .i64 t1) ?_
        refine oI 73 .i64 z fun t73 z=>?_
        refine oW 34 (.agg t71) z fun h_103 z=>?_
        refine oA 5 (.int .i64 t73) ?_
        refine oA 6 (.bool true) ?_
        refine oV [(4,newP h),(5,.int .i64 t73),(6,.bool true)] (n96 (oY (q7 (q4 ?_))))
        obtain⟨w4_106,e105,z⟩:=oS z
        exact lZ z [.cell 4 34,.tmp 5,.tmp 6] [.agg w4_106,.int .i64 t73,.bool true] (rY e105 (rT (rT res_nil)))
      |false=>
       refine oU z fun z=>?_
       refine oZ (n7 (n4 ?_))
       refine oG fun n107=>W.r ?_
       refine oA 74 (strA t0) ?_
       refine oA 75 (.int .i64 t1) ?_
       refine oX 76 9 .i64 z fun t76 z=>?_
       refine oCa hc 77 z fun t77 h_109 z=>?_
       refine oA 78 (.int .i64 t1) ?_
       refine oI 79 .i64 z fun t79 z=>?_
       refine oW 34 (.agg t77) z fun h_113 z=>?_
       refine oA 5 (.int .i64 t79) ?_
       refine oA 6 (.bool true) ?_
       refine oV [(4,newP h),(5,.int .i64 t79),(6,.bool true)] (n107 (oY ?_))
       obtain⟨w4_116,e115,z⟩:=oS z
       exact lZ z [.cell 4 34,.tmp 5,.tmp 6] [.agg w4_116,.int .i64 t79,.bool true] (rY e115 (rT (rT res_nil)))
    cases t51 with
    |true=>
     refine oT z fun z=>?_
     refine oZ ?_
     exact gW _ (J77 _ _ z)
    | false =>
     refine oU z fun z=>?_
     refine oG fun n117=>W.r ?_
     refine oB 52 z fun t52 z=>?_
     refine oA 50 (.bool t52) ?_
     refine oV [(0,strA t0),(1,.int .i64 t1),(4,newP h),(12,.int .u8 t12),(50,.bool t52)] (n117 ?_)
     obtain⟨k119,e119,z⟩:=lS z
     have J119:∀(t50_120:Bool) (h_121:AHeap),k119 t50_120 h_121=some (rR,hR)→Go w0 m0 (Func.ntmps Tryd.f58) (K74 .normal) [(0,strA t0),(1,.int .i64 t1),(4,newP h),(12,.int .u8 t12),(50,.bool t50_120)] [] h_121:=by
      intro t50_120 h_121 z
      rw[e119] at z
      exact gW _ (J77 _ _ z)
     cases t52 with
     |true=>
      refine oT z fun z=>?_
      refine oZ ?_
      exact gW _ (J119 _ _ z)
     | false =>
      refine oU z fun z=>?_
      refine oG fun n122=>W.r ?_
      refine oB 53 z fun t53 z=>?_
      refine oA 50 (.bool t53) ?_
      refine oV [(0,strA t0),(1,.int .i64 t1),(4,newP h),(12,.int .u8 t12),(50,.bool t53)] (n122 ?_)
      obtain⟨k124,e124,z⟩:=lS z
      have J124:∀(t50_125:Bool) (h_126:AHeap),k124 t50_125 h_126=some (rR,hR)→Go w0 m0 (Func.ntmps Tryd.f58) (K74 .normal) [(0,strA t0),(1,.int .i64 t1),(4,newP h),(12,.int .u8 t12),(50,.bool t50_125)] [] h_126:=by
       intro t50_125 h_126 z
       rw[e124] at z
       exact gW _ (J119 _ _ z)
      cases t53 with
      |true=>
       refine oT z fun z=>?_
       refine oZ ?_
       exact gW _ (J124 _ _ z)
      |false=>
       refine oU z fun z=>?_
       refine W.r ?_
       refine oB 54 z fun t54 z=>?_
       refine oA 50 (.bool t54) ?_
       refine oV [(0,strA t0),(1,.int .i64 t1),(4,newP h),(12,.int .u8 t12),(50,.bool t54)] ?_
       exact gW _ (J124 _ _ z)
noncomputable def ref09_class_L2b(h_18:AHeap)(t14:Int)(k108:AHeap→R)(self:Int→AHeap→R)(t15:Int)(h_111:AHeap):R:=
 lett (IntKind.i64.wrap t14) fun (t90:Int)=>
 lett (decide (t15≤t90)) fun (t91:Bool)=>
 ifB t91
 (
  obind (idxA 256 1 (newP h_18) t15) fun t95=>
  obind (stRow h_111 1 [.bool true] t95) fun h_119=>
  lett (IntKind.i64.wrap (t15+1)) fun (t93:Int)=>
  self t93 h_119)
 (
  k108 h_111)
noncomputable def ref09_class_L2(h_18:AHeap)(t14:Int)(k108:AHeap→R):Nat→Int→AHeap→R:=iterR (fun _ _=>none) (ref09_class_L2b h_18 t14 k108)
theorem ref09_class_L2_s(h_18:AHeap)(t14:Int)(k108:AHeap→R)(m:Nat):ref09_class_L2 h_18 t14 k108 (m+1)=ref09_class_L2b h_18 t14 k108 (ref09_class_L2 h_18 t14 k108 m):=rfl
noncomputable def ref09_class_L1b(call:CallF)(n:Nat)(t0:Bytes)(h:AHeap)(h_18:AHeap)(k25:Int→AHeap→R)(self:Int→Bool→AHeap→R)(t1_65:Int)(t10:Bool)(h_66:AHeap):R:=
 lett (fun (t37 : Bool) (h_69 : AHeap) =>
  lett (fun (t43 : Bool) (h_72 : AHeap) =>
   ifB t43
   (
    callN (call 72 [strA t0,.int .i64 t1_65] h_72) fun r47 h_78=>
    obind (extT 0 r47) fun v48=>
    obind (avInt .u8 v48) fun t48=>
    obind (extT 1 r47) fun v49=>
    obind (avInt .i64 v49) fun t49=>
    obind (extT 2 r47) fun v50=>
    obind (avBool v50) fun t50=>
    lett (!t50) fun (t52:Bool)=>
    ifB t52
    (
     obind (stRow h_78 6 ([.int .i64 0,.int .u64 0,.int .u64 0,.int .u64 0,.int .u64 0,.nsl]:List AV) (newP h)) fun h_90=>
     obind (ldRow h_90 6 (newP h)) fun w4_93=>
     some (.ret (.tup [.agg w4_93,.int .i64 t49,.bool false]),h_90))
    (
     lett (decide (t49<(lenS t0))) fun (t60:Bool)=>
     lett (fun (t66:Bool) (h_99:AHeap)=>
      lett (fun (t1_103:Int) (t14:Int) (h_104:AHeap)=>
       lett (IntKind.i64.wrap t48) fun (t87:Int)=>
       lett (fun (h_109:AHeap)=>
        self t1_103 false h_109) fun k108=>
       ref09_class_L2 h_18 t14 k108 n t87 h_104) fun k102=>
      ifB t66
      (
       lett (IntKind.i64.wrap (t49+1)) fun (t70:Int)=>
       callN (call 72 [strA t0,.int .i64 t70] h_99) fun r71 h_124=>
       obind (extT 0 r71) fun v72=>
       obind (avInt .u8 v72) fun t72=>
       obind (extT 1 r71) fun v73=>
       obind (avInt .i64 v73) fun t73=>
       obind (extT 2 r71) fun v74=>
       obind (avBool v74) fun t74=>
       lett (!t74) fun (t76:Bool)=>
       ifB t76
       (
        obind (stRow h_124 6 ([.int .i64 0,.int .u64 0,.int .u64 0,.int .u64 0,.int .u64 0,.nsl]:List AV) (newP h)) fun h_136=>
        obind (ldRow h_136 6 (newP h)) fun w4_139=>
        some (.ret (.tup [.agg w4_139,.int .i64 t73,.bool false]),h_136))
       (
        lett (decide (t72<t48)) fun (t82:Bool)=>
        ifB t82
        (
         lett (IntKind.i64.wrap (t73 - 1)) fun (t85:Int)=>
         obind (stRow h_124 6 ([.int .i64 0,.int .u64 0,.int .u64 0,.int .u64 0,.int .u64 0,.nsl]:List AV) (newP h)) fun h_145=>
         obind (ldRow h_145 6 (newP h)) fun w4_148=>
         some (.ret (.tup [.agg w4_148,.int .i64 t85,.bool false]),h_145))
        (
         k102 t73 t72 h_124)))
      (
       k102 t49 t48 h_99)) fun j66=>
     ifB t60
     (
      obind (idxS t0 t49) fun t64=>
      lett ((t64:Int) == 45) fun (t65:Bool)=>
      j66 t65 h_78)
     (
      j66 false h_78)))
   (
    k25 t1_65 h_72)) fun j43=>
  ifB t37
  (
   j43 true h_69)
  (
   obind (idxS t0 t1_65) fun t41=>
   lett ((t41:Int) != 93) fun (t42:Bool)=>
   j43 t42 h_69)) fun j37=>
 ifB t10
 (
  j37 true h_66)
 (
  lett ((t1_65:Int) == (lenS t0)) fun (t36:Bool)=>
  j37 t36 h_66)
noncomputable def ref09_class_L1(call:CallF)(n:Nat)(t0:Bytes)(h:AHeap)(h_18:AHeap)(k25:Int→AHeap→R):Nat→Int→Bool→AHeap→R:=iterR (fun _ _ _=>none) (ref09_class_L1b call n t0 h h_18 k25)
theorem ref09_class_L1_s(call:CallF)(n:Nat)(t0:Bytes)(h:AHeap)(h_18:AHeap)(k25:Int→AHeap→R)(m:Nat):ref09_class_L1 call n t0 h h_18 k25 (m+1)=ref09_class_L1b call n t0 h h_18 k25 (ref09_class_L1 call n t0 h h_18 k25 m):=rfl
noncomputable def ref09_class_L0b(h_2:AHeap)(t27:Bool)(h_18:AHeap)(k31:AHeap→R)(self:Int→AHeap→R)(t16:Int)(h_40:AHeap):R:=
 lett (decide (t16<256)) fun (t97:Bool)=>
 ifB t97
 (
  obind (idxA 256 1 (newP h_18) t16) fun t101=>
  obind (ldCell h_40 t101) fun v102=>
  obind (avBool v102) fun t102=>
  lett (!((t102:Bool) == t27)) fun (t104:Bool)=>
  lett (fun (h_52:AHeap)=>
   lett (IntKind.i64.wrap (t16+1)) fun (t99:Int)=>
   self t99 h_52) fun k51=>
  ifB t104
  (
   obind (quoI .i64 t16 64) fun t106=>
   obind (idxA 4 1 (AV.ptr (AHeap.next h_2) 1) t106) fun t108=>
   obind (ldCell h_40 t108) fun v109=>
   obind (avInt .u64 v109) fun t109=>
   obind (remI .i64 t16 64) fun t111=>
   obind (shlI .u64 1 t111) fun t112=>
   lett (orI .u64 t109 t112) fun (t113:Int)=>
   obind (idxA 4 1 (AV.ptr (AHeap.next h_2) 1) t106) fun t115=>
   obind (stRow h_40 1 [.int .u64 t113] t115) fun h_62=>
   k51 h_62)
  (
   k51 h_40))
 (
  k31 h_40)
noncomputable def ref09_class_L0(h_2:AHeap)(t27:Bool)(h_18:AHeap)(k31:AHeap→R):Nat→Int→AHeap→R:=iterR (fun _ _=>none) (ref09_class_L0b h_2 t27 h_18 k31)
theorem ref09_class_L0_s(h_2:AHeap)(t27:Bool)(h_18:AHeap)(k31:AHeap→R)(m:Nat):ref09_class_L0 h_2 t27 h_18 k31 (m+1)=ref09_class_L0b h_2 t27 h_18 k31 (ref09_class_L0 h_2 t27 h_18 k31 m):=rfl
noncomputable def ref09_class(call:CallF)(n:Nat)(t0:Bytes)(t1:Int)(h:AHeap):R:=
 lett (newH h 34 [.int .i64 0,.int .u64 0,.int .u64 0,.int .u64 0,.int .u64 0,.nsl]) fun h_2=>
 lett (newH h_2 34 [.int .i64 0,.int .u64 0,.int .u64 0,.int .u64 0,.int .u64 0,.nsl]) fun h_5=>
 obind (stRow h_5 6 ([.int .i64 2,.int .u64 0,.int .u64 0,.int .u64 0,.int .u64 0,.nsl]:List AV) (newP h_2)) fun h_7=>
 lett (decide (t1<(lenS t0))) fun (t21:Bool)=>
 lett (fun (t27:Bool) (h_11:AHeap)=>
  lett (fun (t1_17:Int) (h_18:AHeap)=>
   lett (newH h_18 103 [.bool false,.bool false,.bool false,.bool false,.bool false,.bool false,.bool false,.bool false,.bool false,.bool false,.bool false,.bool false,.bool false,.bool false,.bool false,.bool false,.bool false,.bool false,.bool false,.bool false,.bool false,.bool false,.bool false,.bool false,.bool false,.bool false,.bool false,.bool false,.bool false,.bool false,.bool false,.bool false,.bool false,.bool false,.bool false,.bool false,.bool false,.bool false,.bool false,.bool false,.bool false,.bool false,.bool false,.bool false,.bool false,.bool false,.bool false,.bool false,.bool false,.bool false,.bool false,.bool false,.bool false,.bool false,.bool false,.bool false,.bool false,.bool false,.bool false,.bool false,.bool false,.bool false,.bool false,.bool false,.bool false,.bool false,.bool false,.bool false,.bool false,.bool false,.bool false,.bool false,.bool false,.bool false,.bool false,.bool false,.bool false,.bool false,.bool false,.bool false,.bool false,.bool false,.bool false,.bool false,.bool false,.bool false,.bool false,.bool false,.bool false,.bool false,.bool false,.bool false,.bool false,.bool false,.bool false,.bool false,.bool false,.bool false,.bool false,.bool false,.bool false,.bool false,.bool false,.bool false,.bool false,.bool false,.bool false,.bool false,.bool false,.bool false,.bool false,.bool false,.bool false,.bool false,.bool false,.bool false,.bool false,.bool false,.bool false,.bool false,.bool false,.bool false,.bool false,.bool false,.bool false,.bool false,.bool false,.bool false,.bool false,.bool false,.bool false,.bool false,.bool false,.bool false,.bool false,.bool false,.bool false,.bool false,.bool false,.bool false,.bool false,.bool false,.bool false,.bool false,.bool false,.bool false,.bool false,.bool false,.bool false,.bool false,.bool false,.bool false,.bool false,.bool false,.bool false,.bool false,.bool false,.bool false,.bool false,.bool false,.bool false,.bool false,.bool false,.bool false,.bool false,.bool false,.bool false,.bool false,.bool false,.bool false,.bool false,.bool false,.bool false,.bool false,.bool false,.bool false,.bool false,.bool false,.bool false,.bool false,.bool false,.bool false,.bool false,.bool false,.bool false,.bool false,.bool false,.bool false,.bool false,.bool false,.bool false,.bool false,.bool false,.bool false,.bool false,.bool false,.bool false,.bool false,.bool false,.bool false,.bool false,.bool false,.bool false,.bool false,.bool false,.bool false,.bool false,.bool false,.bool false,.bool false,.bool false,.bool false,.bool false,.bool false,.bool false,.bool false,.bool false,.bool false,.bool false,.bool false,.bool false,.bool false,.bool false,.bool false,.bool false,.bool false,.bool false,.bool false,.bool false,.bool false,.bool false,.bool false,.bool false,.bool false,.bool false,.bool false,.bool false,.bool false,.bool false,.bool false,.bool false,.bool false,.bool false,.bool false,.bool false,.bool false,.bool false,.bool false,.bool false,.bool false,.bool false,.bool false,.bool false,.bool false,.bool false,.bool false]) fun h_20=>
   lett (fun (t1_26:Int) (h_27:AHeap)=>
    lett (fun (h_32:AHeap)=>
     obind (ldRow h_32 6 (newP h_2)) fun t116=>
     lett (IntKind.i64.wrap (t1_26+1)) fun (t118:Int)=>
     obind (stRow h_32 6 t116 (newP h)) fun h_36=>
     obind (ldRow h_36 6 (newP h)) fun w4=>
     some (.ret (.tup [.agg w4,.int .i64 t118,.bool true]),h_36)) fun k31=>
    ref09_class_L0 h_2 t27 h_18 k31 n 0 h_27) fun k25=>
   ref09_class_L1 call n t0 h h_18 k25 n t1_17 true h_20) fun k16=>
  ifB t27
  (
   lett (IntKind.i64.wrap (t1+1)) fun (t30:Int)=>
   k16 t30 h_11)
  (
   k16 t1 h_11)) fun j27=>
 ifB t21
 (
  obind (idxS t0 t1) fun t25=>
  lett ((t25:Int) == 94) fun (t26:Bool)=>
  j27 t26 h_7)
 (
  j27 false h_7)
theorem ref09_class_ok{call:CallF}(hc:SaysAll Pg call){n:Nat}{t0:Bytes}{t1:Int}{h:AHeap}{rR:ARes}{hR:AHeap}(z:ref09_class call n t0 t1 h=some (rR,hR)):Says Pg 68 [strA t0,.int .i64 t1] h rR hR:=by
 unfold ref09_class at z
 refine sO Tryd.func68 fun w0 m0=>?_
 refine wW [(0,strA t0),(1,.int .i64 t1)] ?_
 refine oG fun n1=>W.r ?_
 refine oN 4 z fun h_2 z=>?_
 refine oA 5 (.int .i64 0) ?_
 refine oA 6 (.bool false) ?_
 refine oV [(0,strA t0),(1,.int .i64 t1),(4,newP h)] (n1 ?_)
 refine oG fun n4=>W.r ?_
 refine oA 17 (.agg ([.int .i64 2,.int .u64 0,.int .u64 0,.int .u64 0,.int .u64 0,.nsl]:List AV)) ?_
 refine oN 7 z fun h_5 z=>?_
 refine oW 34 (.agg ([.int .i64 2,.int .u64 0,.int .u64 0,.int .u64 0,.int .u64 0,.nsl]:List AV)) z fun h_7 z=>?_
 refine oV [(0,strA t0),(1,.int .i64 t1),(4,newP h),(7,newP h_2)] (n4 ?_)
 refine W.s (fun K9 n9 _ _ _=>?_)
 refine W.r ?_
 refine oA 18 (.int .i64 t1) ?_
 refine oA 19 (strA t0) ?_
 refine oA 20 (.int .i64 (lenS t0)) ?_
 refine oB 21 z fun t21 z=>?_
 refine oA 22 (.bool t21) ?_
 obtain⟨j27,e12,z⟩:=lS z
 have J13 : ∀ (t27 : Bool) (h_11 : AHeap), j27 t27 h_11 = some (rR, hR) → WL Pg w0 m0 (Func.ntmps Tryd.f68) (Code.ops (Code.p1 (Code.p2 (Code.p2 (codeOf Tryd.f68))))) 10 K9 [(0, strA t0), (1, .int .i64 t1), (4, newP h), (7, newP h_2), (27, .bool t27)] [] h_11 := by
  intro t27 h_11 z
  rw[e12] at z
  refine oA 8 (.bool t27) ?_
  refine oV [(0,strA t0),(1,.int .i64 t1),(4,newP h),(7,newP h_2),(8,.bool t27)] (n9 ?_)
  refine W.s (fun K14 n14 _ _ _=>?_)
  refine oG fun n15=>W.r ?_
  refine oA 28 (.bool t27) ?_
  refine oV [(0,strA t0),(1,.int .i64 t1),(4,newP h),(7,newP h_2),(8,.bool t27),(28,.bool t27)] (n15 ?_)
  obtain⟨k16,e16,z⟩:=lS z
  have J16 : ∀ (t1_17 : Int) (h_18 : AHeap), k16 t1_17 h_18 = some (rR, hR) → Go w0 m0 (Func.ntmps Tryd.f68) (K14 .normal) [(0, strA t0), (1, .int .i64 t1_17), (4, newP h), (7, newP h_2), (8, .bool t27)] [] h_18 := by
   intro t1_17 h_18 z
   rw[e16] at z
   refine n14 ?_
   refine oG fun n19=>W.r ?_
   refine oN 9 z fun h_20 z=>?_
   refine oV [(0,strA t0),(1,.int .i64 t1_17),(4,newP h),(7,newP h_2),(8,.bool t27),(9,newP h_18)] (n19 ?_)
   refine oG fun n22=>W.r ?_
   refine oA 10 (.bool true) ?_
   refine oV [(0,strA t0),(1,.int .i64 t1_17),(4,newP h),(7,newP h_2),(8,.bool t27),(9,newP h_18),(10,.bool true)] (n22 ?_)
   refine W.s (fun K23 n23 _ q23 _=>?_)
   obtain⟨k25,e25,z⟩:=lS z
   have J25 : ∀ (t1_26 : Int) (h_27 : AHeap), k25 t1_26 h_27 = some (rR, hR) → Go w0 m0 (Func.ntmps Tryd.f68) (K23 .normal) [(1, .int .i64 t1_26), (4, newP h), (7, newP h_2), (8, .bool t27), (9, newP h_18)] [] h_27 := by
    intro t1_26 h_27 z
    rw[e25] at z
    refine n23 ?_
    refine W.s (fun K28 n28 _ _ _=>?_)
    refine oG fun n29=>W.r ?_
    refine oA 16 (.int .i64 0) ?_
    refine oV [(1,.int .i64 t1_26),(4,newP h),(7,newP h_2),(8,.bool t27),(9,newP h_18),(16,.int .i64 0)] (n29 ?_)
    obtain⟨k31,e31,z⟩:=lS z
    have J31:∀(h_32:AHeap),k31 h_32=some (rR,hR)→Go w0 m0 (Func.ntmps Tryd.f68) (K28 .normal) [(1,.int .i64 t1_26),(4,newP h),(7,newP h_2)] [] h_32:=by
     intro h_32 z
     rw[e31] at z
     refine n28 ?_
     refine oG fun n33=>W.r ?_
     refine oR 116 34 z fun t116 z=>?_
     refine oA 117 (.int .i64 t1_26) ?_
     refine oI 118 .i64 z fun t118 z=>?_
     refine oW 34 (.agg t116) z fun h_36 z=>?_
     refine oA 5 (.int .i64 t118) ?_
     refine oA 6 (.bool true) ?_
     refine oV [(4,newP h),(5,.int .i64 t118),(6,.bool true)] (n33 (oY ?_))
     obtain⟨w4,e38,z⟩:=oS z
     exact lZ z [.cell 4 34,.tmp 5,.tmp 6] [.agg w4,.int .i64 t118,.bool true] (rY e38 (rT (rT res_nil)))
    refine W.blockK (by kernel_rfl) (fun K30 n30 s30 o30 q30 p30=>?_)
    refine W.loopK (by kernel_rfl) (fun I39 K39 b39 n39 e39 q39 p39=>?_)
    have L39:∀(m:Nat) (t16:Int) (h_40:AHeap),ref09_class_L0 h_2 t27 h_18 k31 m t16 h_40=some (rR,hR)→Go w0 m0 (Func.ntmps Tryd.f68) I39 [(1,.int .i64 t1_26),(4,newP h),(7,newP h_2),(8,.bool t27),(9,newP h_18),(16,.int .i64 t16)] [] h_40:=by
     intro m
     induction m with
     |zero=>intro t16 h_40 z;cases z
     | succ m ih39 =>
      intro t16 h_40 z
      rw[ref09_class_L0_s] at z;unfold ref09_class_L0b at z
      refine b39 ?_
      refine W.s (fun _ n41 e41 _ _=>?_)
      refine oG fun n42=>W.r ?_
      refine oA 96 (.int .i64 t16) ?_
      refine oB 97 z fun t97 z=>?_
      refine oV [(1,.int .i64 t1_26),(4,newP h),(7,newP h_2),(8,.bool t27),(9,newP h_18),(16,.int .i64 t16),(97,.bool t97)] (n42 ?_)
      cases t97 with
      | true =>
       refine oT z fun z=>?_
       refine oZ (n41 ?_)
       refine oG fun n44=>?_
       refine W.blockK (by kernel_rfl) (fun K45 n45 s45 o45 q45 p45=>?_)
       refine oG fun n46=>W.r ?_
       refine oA 100 (.int .i64 t16) ?_
       refine oQ 101 103 4 .i64 z fun t101 z=>?_
       refine oLb 102 4 z fun t102 z=>?_
       refine oA 103 (.bool t27) ?_
       refine oB 104 z fun t104 z=>?_
       refine oV [(1,.int .i64 t1_26),(4,newP h),(7,newP h_2),(8,.bool t27),(9,newP h_18),(16,.int .i64 t16),(104,.bool t104)] (n46 ?_)
       obtain⟨k51,e51,z⟩:=lS z
       have J51:∀(h_52:AHeap),k51 h_52=some (rR,hR)→Go w0 m0 (Func.ntmps Tryd.f68) (K45 .normal) [(1,.int .i64 t1_26),(4,newP h),(7,newP h_2),(8,.bool t27),(9,newP h_18),(16,.int .i64 t16)] [] h_52:=by
        intro h_52 z
        rw[e51] at z
        refine n45 (n44 (W.r ?_))
        refine oA 98 (.int .i64 t16) ?_
        refine oI 99 .i64 z fun t99 z=>?_
        refine oA 16 (.int .i64 t99) ?_
        refine oV [(1,.int .i64 t1_26),(4,newP h),(7,newP h_2),(8,.bool t27),(9,newP h_18),(16,.int .i64 t99)] (n39 ?_)
        exact gW _ (ih39 _ _ z)
       cases t104 with
       |true=>
        refine oT z fun z=>?_
        refine W.draw (by kernel_rfl) (hc.ok w0) (plan:=[0,1,2,3,4,5,6,7,8,9,10,11]) (by kernel_rfl) (by kernel_rfl) (by kernel_rfl) ?_
        refine WD.a 0 (some 105) (.int .i64 t16) h_40 ?_
        obtain⟨t106,e54,z⟩:=oS z
        refine WD.b 0 (some 106) (.int .i64 t106) h_40 (quo_int (P:=Pg) (h:=h_40) (t:=3) (lit:=true) e54) ?_
        refine WD.a 0 (some 107) (AV.ptr (AHeap.next h_2) 1) h_40 ?_
        obtain⟨t108,e55,z⟩:=oS z
        refine WD.b 0 (some 108) t108 h_40 (index_arr (P:=Pg) (h:=h_40) (t:=31) (e':=29) (k:=.i64) (by kernel_rfl) (by kernel_rfl) (by kernel_rfl) e55) ?_
        replace z:=oS z;obtain⟨v109,e56,z⟩:=z
        replace z:=oS z;obtain⟨t109,c57,z⟩:=z
        have c57:=avInt_some c57
        subst c57
        refine WD.b 1 (some 109) (.int .u64 t109) h_40 (load_cell (P:=Pg) (h:=h_40) (t:=29) (by kernel_rfl) e56) ?_
        refine WD.a 0 (some 110) (.int .i64 t16) h_40 ?_
        obtain⟨t111,e58,z⟩:=oS z
        refine WD.b 0 (some 111) (.int .i64 t111) h_40 (rem_int (P:=Pg) (h:=h_40) (t:=3) (lit:=true) e58) ?_
        obtain⟨t112,e59,z⟩:=oS z
        refine WD.b 0 (some 112) (.int .u64 t112) h_40 (shl_int (P:=Pg) (h:=h_40) (t:=29) (k':=.i64) (lit:=true) e59) ?_
        obtain⟨t113,e60,z⟩:=lS z
        refine WD.val (d:=(some 113)) (v:=.int .u64 t113) (h':=h_40) (by kernel_rfl) (by kernel_rfl) (val_of (AV.int .u64) e60 (by kernel_rfl)) (k:=0) (by kernel_rfl) (fun e=>absurd e (by decide)) (by decide) ?_
        refine WD.a 0 (some 114) (AV.ptr (AHeap.next h_2) 1) h_40 ?_
        obtain⟨t115,e61,z⟩:=oS z
        refine WD.b 0 (some 115) t115 h_40 (index_arr (P:=Pg) (h:=h_40) (t:=31) (e':=29) (k:=.i64) (by kernel_rfl) (by kernel_rfl) (by kernel_rfl) e61) ?_
        obtain⟨h_62,e63,z⟩:=oS z
        refine WD.eff (h':=h_62) (by kernel_rfl) (by kernel_rfl) (Eq.trans (by kernel_rfl) (store_row (P:=Pg) (h:=h_40) (t:=29) (v:=(.int .u64 t113)) (by kernel_rfl) (by kernel_rfl) e63)) (k:=2) (by kernel_rfl) (fun _=>(by kernel_rfl)) (by decide) ?_
        refine WD.nil ?_
        refine gW [(1,.int .i64 t1_26),(4,newP h),(7,newP h_2),(8,.bool t27),(9,newP h_18),(16,.int .i64 t16)] ?_
        exact gW _ (J51 _ z)
       |false=>
        refine oU z fun z=>?_
        refine oZ ?_
        exact gW _ (J51 _ z)
      |false=>
       refine oU z fun z=>?_
       refine W.exit (by kernel_rfl) ?_
       refine e41 (e39 ?_)
       refine s30 (by kernel_rfl) ?_
       exact gW _ (J31 _ z)
    exact gW _ (L39 _ _ _ z)
   refine W.blockK (by kernel_rfl) (fun K24 n24 s24 o24 q24 p24=>?_)
   refine W.loopK (by kernel_rfl) (fun I64 K64 b64 n64 e64 q64 p64=>?_)
   have L64 : ∀ (m : Nat) (t1_65 : Int) (t10 : Bool) (h_66 : AHeap), ref09_class_L1 call n t0 h h_18 k25 m t1_65 t10 h_66 = some (rR, hR) → Go w0 m0 (Func.ntmps Tryd.f68) I64 [(0, strA t0), (1, .int .i64 t1_65), (4, newP h), (7, newP h_2), (8, .bool t27), (9, newP h_18), (10, .bool t10)] [] h_66 := by
    intro m
    induction m with
    |zero=>intro t1_65 t10 h_66 z;cases z
    | succ m ih64 =>
     intro t1_65 t10 h_66 z
     rw[ref09_class_L1_s] at z;unfold ref09_class_L1b at z
     refine b64 ?_
     refine W.s (fun _ n67 e67 _ _=>?_)
     refine W.s (fun K68 n68 _ _ _=>?_)
     refine W.r ?_
     refine oA 31 (.bool t10) ?_
     refine oA 32 (.bool t10) ?_
     obtain⟨j37,e70,z⟩:=lS z
     have J71:∀(t37:Bool) (h_69:AHeap),j37 t37 h_69=some (rR,hR)→WL Pg w0 m0 (Func.ntmps Tryd.f68) (Code.ops (Code.p1 (Code.p1 (Code.p1 (Code.p1 (Code.p1 (Code.p2 (Code.p2 (Code.p2 (Code.p2 (Code.p2 (Code.p2 (codeOf Tryd.f68))))))))))))) 7 K68 [(0,strA t0),(1,.int .i64 t1_65),(4,newP h),(7,newP h_2),(8,.bool t27),(9,newP h_18),(37,.bool t37)] [] h_69:=by
      intro t37 h_69 z
      rw[e70] at z
      refine oA 38 (.bool t37) ?_
      obtain⟨j43,e73,z⟩:=lS z
      have J74:∀(t43:Bool) (h_72:AHeap),j43 t43 h_72=some (rR,hR)→WL Pg w0 m0 (Func.ntmps Tryd.f68) (Code.ops (Code.p1 (Code.p1 (Code.p1 (Code.p1 (Code.p1 (Code.p2 (Code.p2 (Code.p2 (Code.p2 (Code.p2 (Code.p2 (codeOf Tryd.f68))))))))))))) 13 K68 [(0,strA t0),(1,.int .i64 t1_65),(4,newP h),(7,newP h_2),(8,.bool t27),(9,newP h_18),(43,.bool t43)] [] h_72:=by
       intro t43 h_72 z
       rw[e73] at z
       refine oV [(0,strA t0),(1,.int .i64 t1_65),(4,newP h),(7,newP h_2),(8,.bool t27),(9,newP h_18),(43,.bool t43)] (n68 ?_)
       cases t43 with
       | true =>
        refine oT z fun z=>?_
        refine oZ (n67 ?_)
        refine W.blockK (by kernel_rfl) (fun K75 n75 s75 o75 q75 p75=>?_)
        refine oG fun n76=>W.r ?_
        refine oA 10 (.bool false) ?_
        refine oV [(0,strA t0),(1,.int .i64 t1_65),(4,newP h),(7,newP h_2),(8,.bool t27),(9,newP h_18),(10,.bool false)] (n76 ?_)
        refine oG fun n77=>W.r ?_
        refine oA 45 (strA t0) ?_
        refine oA 46 (.int .i64 t1_65) ?_
        refine oC hc (some 47) z fun r47 h_78 z=>?_
        refine oA 44 r47 ?_
        refine oEi 48 z fun t48 z=>?_
        refine oEi 49 z fun t49 z=>?_
        refine oEb 50 z fun t50 z=>?_
        refine oA 11 (.int .u8 t48) ?_
        refine oA 12 (.int .i64 t49) ?_
        refine oA 13 (.bool t50) ?_
        refine oV [(0,strA t0),(4,newP h),(7,newP h_2),(8,.bool t27),(9,newP h_18),(10,.bool false),(11,.int .u8 t48),(12,.int .i64 t49),(13,.bool t50)] (n77 ?_)
        refine oH fun n86 q86=>?_
        refine oG fun n87=>W.r ?_
        refine oA 51 (.bool t50) ?_
        refine oB 52 z fun t52 z=>?_
        refine oV [(0,strA t0),(4,newP h),(7,newP h_2),(8,.bool t27),(9,newP h_18),(10,.bool false),(11,.int .u8 t48),(12,.int .i64 t49),(52,.bool t52)] (n87 ?_)
        cases t52 with
        |true=>
         refine oT z fun z=>?_
         refine oG fun n89=>W.r ?_
         refine oA 53 (.agg ([.int .i64 0,.int .u64 0,.int .u64 0,.int .u64 0,.int .u64 0,.nsl]:List AV)) ?_
         refine oA 54 (.int .i64 t49) ?_
         refine oW 34 (.agg ([.int .i64 0,.int .u64 0,.int .u64 0,.int .u64 0,.int .u64 0,.nsl]:List AV)) z fun h_90 z=>?_
         refine oA 5 (.int .i64 t49) ?_
         refine oA 6 (.bool false) ?_
         refine oV [(4,newP h),(5,.int .i64 t49),(6,.bool false)] (n89 (oY (q86 (q75 (q64 (q24 (q23 ?_)))))))
         obtain⟨w4_93,e92,z⟩:=oS z
         exact lZ z [.cell 4 34,.tmp 5,.tmp 6] [.agg w4_93,.int .i64 t49,.bool false] (rY e92 (rT (rT res_nil)))
        | false =>
         refine oU z fun z=>?_
         refine oZ (n86 ?_)
         refine oG fun n94=>W.r ?_
         refine oA 55 (.int .i64 t49) ?_
         refine oA 1 (.int .i64 t49) ?_
         refine oV [(0,strA t0),(1,.int .i64 t49),(4,newP h),(7,newP h_2),(8,.bool t27),(9,newP h_18),(10,.bool false),(11,.int .u8 t48)] (n94 ?_)
         refine oG fun n95=>W.r ?_
         refine oA 56 (.int .u8 t48) ?_
         refine oA 14 (.int .u8 t48) ?_
         refine oV [(0,strA t0),(1,.int .i64 t49),(4,newP h),(7,newP h_2),(8,.bool t27),(9,newP h_18),(10,.bool false),(11,.int .u8 t48),(14,.int .u8 t48)] (n95 ?_)
         refine W.s (fun K96 n96 _ q96 _=>?_)
         refine W.s (fun K97 n97 _ _ _=>?_)
         refine W.r ?_
         refine oA 57 (.int .i64 t49) ?_
         refine oA 58 (strA t0) ?_
         refine oA 59 (.int .i64 (lenS t0)) ?_
         refine oB 60 z fun t60 z=>?_
         refine oA 61 (.bool t60) ?_
         obtain⟨j66,e100,z⟩:=lS z
         have J101 : ∀ (t66 : Bool) (h_99 : AHeap), j66 t66 h_99 = some (rR, hR) → WL Pg w0 m0 (Func.ntmps Tryd.f68) (Code.ops (Code.p1 (Code.p1 (Code.p2 (Code.p2 (Code.p2 (Code.p2 (Code.p2 (Code.p1 (Code.p2 (Code.p1 (Code.p1 (Code.p1 (Code.p2 (Code.p2 (Code.p2 (Code.p2 (Code.p2 (Code.p2 (codeOf Tryd.f68)))))))))))))))))))) 10 K97 [(0, strA t0), (1, .int .i64 t49), (4, newP h), (7, newP h_2), (8, .bool t27), (9, newP h_18), (10, .bool false), (11, .int .u8 t48), (14, .int .u8 t48), (66, .bool t66)] [] h_99 := by
          intro t66 h_99 z
          rw[e100] at z
          refine oV [(0,strA t0),(1,.int .i64 t49),(4,newP h),(7,newP h_2),(8,.bool t27),(9,newP h_18),(10,.bool false),(11,.int .u8 t48),(14,.int .u8 t48),(66,.bool t66)] (n97 ?_)
          obtain⟨k102,e102,z⟩:=lS z
          have J102:∀(t1_103:Int) (t14:Int) (h_104:AHeap),k102 t1_103 t14 h_104=some (rR,hR)→Go w0 m0 (Func.ntmps Tryd.f68) (K96 .normal) [(0,strA t0),(1,.int .i64 t1_103),(4,newP h),(7,newP h_2),(8,.bool t27),(9,newP h_18),(10,.bool false),(11,.int .u8 t48),(14,.int .u8 t14)] [] h_104:=by
           intro t1_103 t14 h_104 z
           rw[e102] at z
           refine n96 ?_
           refine oG fun n105=>W.r ?_
           refine oA 86 (.int .u8 t48) ?_
           refine oI 87 .i64 z fun t87 z=>?_
           refine oA 15 (.int .i64 t87) ?_
           refine oV [(0,strA t0),(1,.int .i64 t1_103),(4,newP h),(7,newP h_2),(8,.bool t27),(9,newP h_18),(10,.bool false),(14,.int .u8 t14),(15,.int .i64 t87)] (n105 ?_)
           obtain⟨k108,e108,z⟩:=lS z
           have J108:∀(h_109:AHeap),k108 h_109=some (rR,hR)→Go w0 m0 (Func.ntmps Tryd.f68) (K75 .normal) [(0,strA t0),(1,.int .i64 t1_103),(4,newP h),(7,newP h_2),(8,.bool t27),(9,newP h_18),(10,.bool false)] [] h_109:=by
            intro h_109 z
            rw[e108] at z
            refine n75 (n64 ?_)
            exact gW _ (ih64 _ _ _ z)
           refine W.blockK (by kernel_rfl) (fun K107 n107 s107 o107 q107 p107=>?_)
           refine W.loopK (by kernel_rfl) (fun I110 K110 b110 n110 e110 q110 p110=>?_)
           have L110:∀(m:Nat) (t15:Int) (h_111:AHeap),ref09_class_L2 h_18 t14 k108 m t15 h_111=some (rR,hR)→Go w0 m0 (Func.ntmps Tryd.f68) I110 [(0,strA t0),(1,.int .i64 t1_103),(4,newP h),(7,newP h_2),(8,.bool t27),(9,newP h_18),(10,.bool false),(14,.int .u8 t14),(15,.int .i64 t15)] [] h_111:=by
            intro m
            induction m with
            |zero=>intro t15 h_111 z;cases z
            | succ m ih110 =>
             intro t15 h_111 z
             rw[ref09_class_L2_s] at z;unfold ref09_class_L2b at z
             refine b110 ?_
             refine W.s (fun _ n112 e112 _ _=>?_)
             refine oG fun n113=>W.r ?_
             refine oA 88 (.int .i64 t15) ?_
             refine oA 89 (.int .u8 t14) ?_
             refine oI 90 .i64 z fun t90 z=>?_
             refine oB 91 z fun t91 z=>?_
             refine oV [(0,strA t0),(1,.int .i64 t1_103),(4,newP h),(7,newP h_2),(8,.bool t27),(9,newP h_18),(10,.bool false),(14,.int .u8 t14),(15,.int .i64 t15),(91,.bool t91)] (n113 ?_)
             cases t91 with
             |true=>
              refine oT z fun z=>?_
              refine oZ (n112 ?_)
              refine oG fun n116=>?_
              refine W.blockK (by kernel_rfl) (fun K117 n117 s117 o117 q117 p117=>?_)
              refine W.r ?_
              refine oA 94 (.int .i64 t15) ?_
              refine oQ 95 103 4 .i64 z fun t95 z=>?_
              refine oW 4 (.bool true) z fun h_119 z=>?_
              refine oV [(0,strA t0),(1,.int .i64 t1_103),(4,newP h),(7,newP h_2),(8,.bool t27),(9,newP h_18),(10,.bool false),(14,.int .u8 t14),(15,.int .i64 t15)] (n117 (n116 (W.r ?_)))
              refine oA 92 (.int .i64 t15) ?_
              refine oI 93 .i64 z fun t93 z=>?_
              refine oA 15 (.int .i64 t93) ?_
              refine oV [(0,strA t0),(1,.int .i64 t1_103),(4,newP h),(7,newP h_2),(8,.bool t27),(9,newP h_18),(10,.bool false),(14,.int .u8 t14),(15,.int .i64 t93)] (n110 ?_)
              exact gW _ (ih110 _ _ z)
             |false=>
              refine oU z fun z=>?_
              refine W.exit (by kernel_rfl) ?_
              refine e112 (e110 ?_)
              refine s107 (by kernel_rfl) ?_
              exact gW _ (J108 _ z)
           exact gW _ (L110 _ _ _ z)
          cases t66 with
          | true =>
           refine oT z fun z=>?_
           refine oG fun n122=>W.r ?_
           refine oA 68 (strA t0) ?_
           refine oA 69 (.int .i64 t49) ?_
           refine oI 70 .i64 z fun t70 z=>?_
           refine oC hc (some 71) z fun r71 h_124 z=>?_
           refine oA 67 r71 ?_
           refine oEi 72 z fun t72 z=>?_
           refine oEi 73 z fun t73 z=>?_
           refine oEb 74 z fun t74 z=>?_
           refine oA 14 (.int .u8 t72) ?_
           refine oA 12 (.int .i64 t73) ?_
           refine oA 13 (.bool t74) ?_
           refine oV [(0,strA t0),(4,newP h),(7,newP h_2),(8,.bool t27),(9,newP h_18),(10,.bool false),(11,.int .u8 t48),(12,.int .i64 t73),(13,.bool t74),(14,.int .u8 t72)] (n122 ?_)
           refine oH fun n132 q132=>?_
           refine oG fun n133=>W.r ?_
           refine oA 75 (.bool t74) ?_
           refine oB 76 z fun t76 z=>?_
           refine oV [(0,strA t0),(4,newP h),(7,newP h_2),(8,.bool t27),(9,newP h_18),(10,.bool false),(11,.int .u8 t48),(12,.int .i64 t73),(14,.int .u8 t72),(76,.bool t76)] (n133 ?_)
           cases t76 with
           |true=>
            refine oT z fun z=>?_
            refine oG fun n135=>W.r ?_
            refine oA 77 (.agg ([.int .i64 0,.int .u64 0,.int .u64 0,.int .u64 0,.int .u64 0,.nsl]:List AV)) ?_
            refine oA 78 (.int .i64 t73) ?_
            refine oW 34 (.agg ([.int .i64 0,.int .u64 0,.int .u64 0,.int .u64 0,.int .u64 0,.nsl]:List AV)) z fun h_136 z=>?_
            refine oA 5 (.int .i64 t73) ?_
            refine oA 6 (.bool false) ?_
            refine oV [(4,newP h),(5,.int .i64 t73),(6,.bool false)] (n135 (oY (q132 (q96 (q75 (q64 (q24 (q23 ?_))))))))
            obtain⟨w4_139,e138,z⟩:=oS z
            exact lZ z [.cell 4 34,.tmp 5,.tmp 6] [.agg w4_139,.int .i64 t73,.bool false] (rY e138 (rT (rT res_nil)))
           | false =>
            refine oU z fun z=>?_
            refine oZ (n132 ?_)
            refine oG fun n140=>W.r ?_
            refine oA 79 (.int .i64 t73) ?_
            refine oA 1 (.int .i64 t73) ?_
            refine oV [(0,strA t0),(1,.int .i64 t73),(4,newP h),(7,newP h_2),(8,.bool t27),(9,newP h_18),(10,.bool false),(11,.int .u8 t48),(14,.int .u8 t72)] (n140 ?_)
            refine oG fun n141=>W.r ?_
            refine oA 80 (.int .u8 t72) ?_
            refine oA 81 (.int .u8 t48) ?_
            refine oB 82 z fun t82 z=>?_
            refine oV [(0,strA t0),(1,.int .i64 t73),(4,newP h),(7,newP h_2),(8,.bool t27),(9,newP h_18),(10,.bool false),(11,.int .u8 t48),(14,.int .u8 t72),(82,.bool t82)] (n141 ?_)
            cases t82 with
            |true=>
             refine oT z fun z=>?_
             refine oG fun n143=>W.r ?_
             refine oA 83 (.agg ([.int .i64 0,.int .u64 0,.int .u64 0,.int .u64 0,.int .u64 0,.nsl]:List AV)) ?_
             refine oA 84 (.int .i64 t73) ?_
             refine oI 85 .i64 z fun t85 z=>?_
             refine oW 34 (.agg ([.int .i64 0,.int .u64 0,.int .u64 0,.int .u64 0,.int .u64 0,.nsl]:List AV)) z fun h_145 z=>?_
             refine oA 5 (.int .i64 t85) ?_
             refine oA 6 (.bool false) ?_
             refine oV [(4,newP h),(5,.int .i64 t85),(6,.bool false)] (n143 (oY (q96 (q75 (q64 (q24 (q23 ?_)))))))
             obtain⟨w4_148,e147,z⟩:=oS z
             exact lZ z [.cell 4 34,.tmp 5,.tmp 6] [.agg w4_148,.int .i64 t85,.bool false] (rY e147 (rT (rT res_nil)))
            |false=>
             refine oU z fun z=>?_
             refine oZ ?_
             exact gW _ (J102 _ _ _ z)
          |false=>
           refine oU z fun z=>?_
           refine oZ ?_
           exact gW _ (J102 _ _ _ z)
         cases t60 with
         |true=>
          replace z:=ifB_t z
          refine oA 62 (strA t0) ?_
          refine oA 63 (.int .i64 t49) ?_
          refine oX 64 9 .i64 z fun t64 z=>?_
          refine oB 65 z fun t65 z=>?_
          refine oA 66 (.bool t65) ?_
          exact lW _ (J101 _ _ z)
         |false=>
          replace z:=ifB_f z
          refine WL.o (some 62) ?_
          refine WL.o (some 63) ?_
          refine WL.o (some 64) ?_
          refine WL.o (some 65) ?_
          refine oA 66 (.bool false) ?_
          exact lW _ (J101 _ _ z)
       |false=>
        refine oU z fun z=>?_
        refine W.exit (by kernel_rfl) ?_
        refine e67 (e64 ?_)
        refine s24 (by kernel_rfl) ?_
        exact gW _ (J25 _ _ z)
      cases t37 with
      |true=>
       replace z:=ifB_t z
       refine WL.o (some 39) ?_
       refine WL.o (some 40) ?_
       refine WL.o (some 41) ?_
       refine WL.o (some 42) ?_
       refine oA 43 (.bool true) ?_
       exact lW _ (J74 _ _ z)
      |false=>
       replace z:=ifB_f z
       refine oA 39 (strA t0) ?_
       refine oA 40 (.int .i64 t1_65) ?_
       refine oX 41 9 .i64 z fun t41 z=>?_
       refine oB 42 z fun t42 z=>?_
       refine oA 43 (.bool t42) ?_
       exact lW _ (J74 _ _ z)
     cases t10 with
     |true=>
      replace z:=ifB_t z
      refine WL.o (some 33) ?_
      refine WL.o (some 34) ?_
      refine WL.o (some 35) ?_
      refine WL.o (some 36) ?_
      refine oA 37 (.bool true) ?_
      exact lW _ (J71 _ _ z)
     |false=>
      replace z:=ifB_f z
      refine oA 33 (.int .i64 t1_65) ?_
      refine oA 34 (strA t0) ?_
      refine oA 35 (.int .i64 (lenS t0)) ?_
      refine oB 36 z fun t36 z=>?_
      refine oA 37 (.bool t36) ?_
      exact lW _ (J71 _ _ z)
   exact gW _ (L64 _ _ _ _ z)
  cases t27 with
  |true=>
   refine oT z fun z=>?_
   refine W.r ?_
   refine oA 29 (.int .i64 t1) ?_
   refine oI 30 .i64 z fun t30 z=>?_
   refine oA 1 (.int .i64 t30) ?_
   refine oV [(0,strA t0),(1,.int .i64 t30),(4,newP h),(7,newP h_2),(8,.bool true)] ?_
   exact gW _ (J16 _ _ z)
  |false=>
   refine oU z fun z=>?_
   refine oZ ?_
   exact gW _ (J16 _ _ z)
 cases t21 with
 |true=>
  replace z:=ifB_t z
  refine oA 23 (strA t0) ?_
  refine oA 24 (.int .i64 t1) ?_
  refine oX 25 9 .i64 z fun t25 z=>?_
  refine oB 26 z fun t26 z=>?_
  refine oA 27 (.bool t26) ?_
  exact lW _ (J13 _ _ z)
 |false=>
  replace z:=ifB_f z
  refine WL.o (some 23) ?_
  refine WL.o (some 24) ?_
  refine WL.o (some 25) ?_
  refine WL.o (some 26) ?_
  refine oA 27 (.bool false) ?_
  exact lW _ (J13 _ _ z)
noncomputable def ref09_member(_:CallF)(_:Nat)(t0:Bytes)(t1:Int)(h:AHeap):R:=
 lett ((t1:Int) == (lenS t0)) fun (t10:Bool)=>
 lett (fun (t16 : Bool) (h_5 : AHeap) =>
  lett (fun (t22 : Bool) (h_8 : AHeap) =>
   lett (fun (t28 : Bool) (h_11 : AHeap) =>
    lett (fun (t34:Bool) (h_14:AHeap)=>
     ifB t34
     (
      some (.ret (.tup [.int .u8 0,.int .i64 t1,.bool false]),h_14))
     (
      obind (idxS t0 t1) fun t38=>
      lett ((t38:Int) != 92) fun (t39:Bool)=>
      ifB t39
      (
       obind (idxS t0 t1) fun t42=>
       lett (IntKind.i64.wrap (t1+1)) fun (t44:Int)=>
       some (.ret (.tup [.int .u8 t42,.int .i64 t44,.bool true]),h_14))
      (
       lett (IntKind.i64.wrap (t1+1)) fun (t46:Int)=>
       lett ((t46:Int) == (lenS t0)) fun (t49:Bool)=>
       ifB t49
       (
        lett (IntKind.i64.wrap (t1+1)) fun (t51:Int)=>
        some (.ret (.tup [.int .u8 0,.int .i64 t51,.bool false]),h_14))
       (
        lett (IntKind.i64.wrap (t1+1)) fun (t54:Int)=>
        obind (idxS t0 t54) fun t55=>
        lett (IntKind.i64.wrap (t1+2)) fun (t57:Int)=>
        some (.ret (.tup [.int .u8 t55,.int .i64 t57,.bool true]),h_14))))) fun j34=>
    ifB t28
    (
     j34 true h_11)
    (
     obind (idxS t0 t1) fun t32=>
     lett ((t32:Int) == 45) fun (t33:Bool)=>
     j34 t33 h_11)) fun j28=>
   ifB t22
   (
    j28 true h_8)
   (
    obind (idxS t0 t1) fun t26=>
    lett ((t26:Int) == 94) fun (t27:Bool)=>
    j28 t27 h_8)) fun j22=>
  ifB t16
  (
   j22 true h_5)
  (
   obind (idxS t0 t1) fun t20=>
   lett ((t20:Int) == 93) fun (t21:Bool)=>
   j22 t21 h_5)) fun j16=>
 ifB t10
 (
  j16 true h)
 (
  obind (idxS t0 t1) fun t14=>
  lett ((t14:Int) == 91) fun (t15:Bool)=>
  j16 t15 h)
theorem ref09_member_ok{call:CallF}(_:SaysAll Pg call){n:Nat}{t0:Bytes}{t1:Int}{h:AHeap}{rR:ARes}{hR:AHeap}(z:ref09_member call n t0 t1 h=some (rR,hR)):Says Pg 72 [strA t0,.int .i64 t1] h rR hR:=by
 unfold ref09_member at z
 refine sO Tryd.func72 fun w0 m0=>?_
 refine wW [(0,strA t0),(1,.int .i64 t1)] ?_
 refine oG fun n1=>W.r ?_
 refine oA 4 (.int .u8 0) ?_
 refine oA 5 (.int .i64 0) ?_
 refine oA 6 (.bool false) ?_
 refine oV [(0,strA t0),(1,.int .i64 t1)] (n1 ?_)
 refine oH fun n2 q2=>?_
 refine W.s (fun K3 n3 _ _ _=>?_)
 refine W.r ?_
 refine oA 7 (.int .i64 t1) ?_
 refine oA 8 (strA t0) ?_
 refine oA 9 (.int .i64 (lenS t0)) ?_
 refine oB 10 z fun t10 z=>?_
 refine oA 11 (.bool t10) ?_
 obtain⟨j16,e6,z⟩:=lS z
 have J7 : ∀ (t16 : Bool) (h_5 : AHeap), j16 t16 h_5 = some (rR, hR) → WL Pg w0 m0 (Func.ntmps Tryd.f72) (Code.ops (Code.p1 (Code.p1 (Code.p2 (codeOf Tryd.f72))))) 10 K3 [(0, strA t0), (1, .int .i64 t1), (16, .bool t16)] [] h_5 := by
  intro t16 h_5 z
  rw[e6] at z
  refine oA 17 (.bool t16) ?_
  obtain⟨j22,e9,z⟩:=lS z
  have J10 : ∀ (t22 : Bool) (h_8 : AHeap), j22 t22 h_8 = some (rR, hR) → WL Pg w0 m0 (Func.ntmps Tryd.f72) (Code.ops (Code.p1 (Code.p1 (Code.p2 (codeOf Tryd.f72))))) 16 K3 [(0, strA t0), (1, .int .i64 t1), (22, .bool t22)] [] h_8 := by
   intro t22 h_8 z
   rw[e9] at z
   refine oA 23 (.bool t22) ?_
   obtain⟨j28,e12,z⟩:=lS z
   have J13 : ∀ (t28 : Bool) (h_11 : AHeap), j28 t28 h_11 = some (rR, hR) → WL Pg w0 m0 (Func.ntmps Tryd.f72) (Code.ops (Code.p1 (Code.p1 (Code.p2 (codeOf Tryd.f72))))) 22 K3 [(0, strA t0), (1, .int .i64 t1), (28, .bool t28)] [] h_11 := by
    intro t28 h_11 z
    rw[e12] at z
    refine oA 29 (.bool t28) ?_
    obtain⟨j34,e15,z⟩:=lS z
    have J16:∀(t34:Bool) (h_14:AHeap),j34 t34 h_14=some (rR,hR)→WL Pg w0 m0 (Func.ntmps Tryd.f72) (Code.ops (Code.p1 (Code.p1 (Code.p2 (codeOf Tryd.f72))))) 28 K3 [(0,strA t0),(1,.int .i64 t1),(34,.bool t34)] [] h_14:=by
     intro t34 h_14 z
     rw[e15] at z
     refine oV [(0,strA t0),(1,.int .i64 t1),(34,.bool t34)] (n3 ?_)
     cases t34 with
     |true=>
      refine oT z fun z=>?_
      refine oG fun n17=>W.r ?_
      refine oA 35 (.int .i64 t1) ?_
      refine oA 4 (.int .u8 0) ?_
      refine oA 5 (.int .i64 t1) ?_
      refine oA 6 (.bool false) ?_
      refine oV [(4,.int .u8 0),(5,.int .i64 t1),(6,.bool false)] (n17 (oY (q2 ?_)))
      exact lZ z [.tmp 4,.tmp 5,.tmp 6] [.int .u8 0,.int .i64 t1,.bool false] (rT (rT (rT res_nil)))
     | false =>
      refine oU z fun z=>?_
      refine oZ (n2 ?_)
      refine oH fun n18 q18=>?_
      refine oG fun n19=>W.r ?_
      refine oA 36 (strA t0) ?_
      refine oA 37 (.int .i64 t1) ?_
      refine oX 38 9 .i64 z fun t38 z=>?_
      refine oB 39 z fun t39 z=>?_
      refine oV [(0,strA t0),(1,.int .i64 t1),(39,.bool t39)] (n19 ?_)
      cases t39 with
      |true=>
       refine oT z fun z=>?_
       refine oG fun n22=>W.r ?_
       refine oA 40 (strA t0) ?_
       refine oA 41 (.int .i64 t1) ?_
       refine oX 42 9 .i64 z fun t42 z=>?_
       refine oA 43 (.int .i64 t1) ?_
       refine oI 44 .i64 z fun t44 z=>?_
       refine oA 4 (.int .u8 t42) ?_
       refine oA 5 (.int .i64 t44) ?_
       refine oA 6 (.bool true) ?_
       refine oV [(4,.int .u8 t42),(5,.int .i64 t44),(6,.bool true)] (n22 (oY (q18 ?_)))
       exact lZ z [.tmp 4,.tmp 5,.tmp 6] [.int .u8 t42,.int .i64 t44,.bool true] (rT (rT (rT res_nil)))
      | false =>
       refine oU z fun z=>?_
       refine oZ (n18 ?_)
       refine oH fun n25 q25=>?_
       refine oG fun n26=>W.r ?_
       refine oA 45 (.int .i64 t1) ?_
       refine oI 46 .i64 z fun t46 z=>?_
       refine oA 47 (strA t0) ?_
       refine oA 48 (.int .i64 (lenS t0)) ?_
       refine oB 49 z fun t49 z=>?_
       refine oV [(0,strA t0),(1,.int .i64 t1),(49,.bool t49)] (n26 ?_)
       cases t49 with
       |true=>
        refine oT z fun z=>?_
        refine oG fun n29=>W.r ?_
        refine oA 50 (.int .i64 t1) ?_
        refine oI 51 .i64 z fun t51 z=>?_
        refine oA 4 (.int .u8 0) ?_
        refine oA 5 (.int .i64 t51) ?_
        refine oA 6 (.bool false) ?_
        refine oV [(4,.int .u8 0),(5,.int .i64 t51),(6,.bool false)] (n29 (oY (q25 ?_)))
        exact lZ z [.tmp 4,.tmp 5,.tmp 6] [.int .u8 0,.int .i64 t51,.bool false] (rT (rT (rT res_nil)))
       |false=>
        refine oU z fun z=>?_
        refine oZ (n25 ?_)
        refine oG fun n31=>W.r ?_
        refine oA 52 (strA t0) ?_
        refine oA 53 (.int .i64 t1) ?_
        refine oI 54 .i64 z fun t54 z=>?_
        refine oX 55 9 .i64 z fun t55 z=>?_
        refine oA 56 (.int .i64 t1) ?_
        refine oI 57 .i64 z fun t57 z=>?_
        refine oA 4 (.int .u8 t55) ?_
        refine oA 5 (.int .i64 t57) ?_
        refine oA 6 (.bool true) ?_
        refine oV [(4,.int .u8 t55),(5,.int .i64 t57),(6,.bool true)] (n31 (oY ?_))
        exact lZ z [.tmp 4,.tmp 5,.tmp 6] [.int .u8 t55,.int .i64 t57,.bool true] (rT (rT (rT res_nil)))
    cases t28 with
    |true=>
     replace z:=ifB_t z
     refine WL.o (some 30) ?_
     refine WL.o (some 31) ?_
     refine WL.o (some 32) ?_
     refine WL.o (some 33) ?_
     refine oA 34 (.bool true) ?_
     exact lW _ (J16 _ _ z)
    |false=>
     replace z:=ifB_f z
     refine oA 30 (strA t0) ?_
     refine oA 31 (.int .i64 t1) ?_
     refine oX 32 9 .i64 z fun t32 z=>?_
     refine oB 33 z fun t33 z=>?_
     refine oA 34 (.bool t33) ?_
     exact lW _ (J16 _ _ z)
   cases t22 with
   |true=>
    replace z:=ifB_t z
    refine WL.o (some 24) ?_
    refine WL.o (some 25) ?_
    refine WL.o (some 26) ?_
    refine WL.o (some 27) ?_
    refine oA 28 (.bool true) ?_
    exact lW _ (J13 _ _ z)
   |false=>
    replace z:=ifB_f z
    refine oA 24 (strA t0) ?_
    refine oA 25 (.int .i64 t1) ?_
    refine oX 26 9 .i64 z fun t26 z=>?_
    refine oB 27 z fun t27 z=>?_
    refine oA 28 (.bool t27) ?_
    exact lW _ (J13 _ _ z)
  cases t16 with
  |true=>
   replace z:=ifB_t z
   refine WL.o (some 18) ?_
   refine WL.o (some 19) ?_
   refine WL.o (some 20) ?_
   refine WL.o (some 21) ?_
   refine oA 22 (.bool true) ?_
   exact lW _ (J10 _ _ z)
  |false=>
   replace z:=ifB_f z
   refine oA 18 (strA t0) ?_
   refine oA 19 (.int .i64 t1) ?_
   refine oX 20 9 .i64 z fun t20 z=>?_
   refine oB 21 z fun t21 z=>?_
   refine oA 22 (.bool t21) ?_
   exact lW _ (J10 _ _ z)
 cases t10 with
 |true=>
  replace z:=ifB_t z
  refine WL.o (some 12) ?_
  refine WL.o (some 13) ?_
  refine WL.o (some 14) ?_
  refine WL.o (some 15) ?_
  refine oA 16 (.bool true) ?_
  exact lW _ (J7 _ _ z)
 |false=>
  replace z:=ifB_f z
  refine oA 12 (strA t0) ?_
  refine oA 13 (.int .i64 t1) ?_
  refine oX 14 9 .i64 z fun t14 z=>?_
  refine oB 15 z fun t15 z=>?_
  refine oA 16 (.bool t15) ?_
  exact lW _ (J7 _ _ z)
noncomputable def worldRF(n:Nat)(call:CallF):CallF:=callOf [
 (31,fn3 Da Ds Dv (ref10_Ends call n)),
 (48,fn2 Dv Dv (ref10_both call n)),
 (49,fn3 Da Ds Dv (ref10_again call n)),
 (32,gcF (fn1 Ds (ref10_start call n))),
 (15,gcF (fn2 Da Ds (ref10_Fits call n))),
 (47,gcF (fn2 Da (Di .u8) (ref09_Has call n))),
 (29,gcF (fn1 (Di .i64) (ref09_bad call n))),
 (13,gcF (fn1 Da (ref09_Tree call n))),
 (27,gcF (fn1 Ds (ref09_literal call n))),
 (28,gcF (fn1 Ds (ref09_glob call n))),
 (43,gcF (fn1 (Di .u8) (ref09_One call n))),
 (45,gcF (fn0 (ref09_All call n))),
 (44,fn2 (Di .i64) Dv (ref09_Over call n)),
 (30,gcF (fn2 Ds (Di .i64) (ref09_alts call n))),
 (46,gcF (fn2 Ds (Di .i64) (ref09_row call n))),
 (58,gcF (fn2 Ds (Di .i64) (ref09_atom call n))),
 (68,gcF (fn2 Ds (Di .i64) (ref09_class call n))),
 (72,gcF (fn2 Ds (Di .i64) (ref09_member call n)))]
set_option maxRecDepth 20000 in
theorem worldRF_ok(n:Nat)(call:CallF)(hc:SaysAll Tryd.prog call):SaysAll Tryd.prog (worldRF n call):=(callOf_cons (fn3_holds Da Ds Dv (ref10_Ends_ok hc))
 (callOf_cons (fn2_holds Dv Dv (ref10_both_ok hc))
 (callOf_cons (fn3_holds Da Ds Dv (ref10_again_ok hc))
 (callOf_cons (gcF_holds (fn1_holds Ds (ref10_start_ok hc)))
 (callOf_cons (gcF_holds (fn2_holds Da Ds (ref10_Fits_ok hc)))
 (callOf_cons (gcF_holds (fn2_holds Da (Di .u8) (ref09_Has_ok hc)))
 (callOf_cons (gcF_holds (fn1_holds (Di .i64) (ref09_bad_ok hc)))
 (callOf_cons (gcF_holds (fn1_holds Da (ref09_Tree_ok hc)))
 (callOf_cons (gcF_holds (fn1_holds Ds (ref09_literal_ok hc)))
 (callOf_cons (gcF_holds (fn1_holds Ds (ref09_glob_ok hc)))
 (callOf_cons (gcF_holds (fn1_holds (Di .u8) (ref09_One_ok hc)))
 (callOf_cons (gcF_holds (fn0_holds (ref09_All_ok hc)))
 (callOf_cons (fn2_holds (Di .i64) Dv (ref09_Over_ok hc))
 (callOf_cons (gcF_holds (fn2_holds Ds (Di .i64) (ref09_alts_ok hc)))
 (callOf_cons (gcF_holds (fn2_holds Ds (Di .i64) (ref09_row_ok hc)))
 (callOf_cons (gcF_holds (fn2_holds Ds (Di .i64) (ref09_atom_ok hc)))
 (callOf_cons (gcF_holds (fn2_holds Ds (Di .i64) (ref09_class_ok hc)))
 (callOf_cons (gcF_holds (fn2_holds Ds (Di .i64) (ref09_member_ok hc)))
 callOf_nil))))))))))))))))))
noncomputable def worldR(n d:Nat):CallF:=iterW (worldRF n) d
theorem worldR_ok(n d:Nat):SaysAll Tryd.prog (worldR n d):=iterW_ok (worldRF_ok n) d
theorem w_ref10_Ends(n d:Nat)(t0:List AV)(t1:Bytes)(t2:AV)(h:AHeap):worldR n (d+1) 31 [.agg t0,strA t1,t2] h=ref10_Ends (worldR n d) n t0 t1 t2 h:=
 Eq.trans (b:=fn3 Da Ds Dv (ref10_Ends (worldR n d) n) [.agg t0,strA t1,t2] h) (by kernel_rfl) (fn3_eq Da Ds Dv _ t0 t1 t2 h)
theorem w_ref10_both(n d:Nat)(t0:AV)(t1:AV)(h:AHeap):worldR n (d+1) 48 [t0,t1] h=ref10_both (worldR n d) n t0 t1 h:=
 Eq.trans (b:=fn2 Dv Dv (ref10_both (worldR n d) n) [t0,t1] h) (by kernel_rfl) (fn2_eq Dv Dv _ t0 t1 h)
theorem w_ref10_again(n d:Nat)(t0:List AV)(t1:Bytes)(t2:AV)(h:AHeap):worldR n (d+1) 49 [.agg t0,strA t1,t2] h=ref10_again (worldR n d) n t0 t1 t2 h:=
 Eq.trans (b:=fn3 Da Ds Dv (ref10_again (worldR n d) n) [.agg t0,strA t1,t2] h) (by kernel_rfl) (fn3_eq Da Ds Dv _ t0 t1 t2 h)
theorem w_ref10_start(n d:Nat)(t0:Bytes)(h:AHeap):worldR n (d+1) 32 [strA t0] h=gcR h (ref10_start (worldR n d) n t0 h):=
 Eq.trans (b:=gcR h (fn1 Ds (ref10_start (worldR n d) n) [strA t0] h)) (by kernel_rfl) (congrArg (gcR h) (fn1_eq Ds _ t0 h))
theorem w_ref10_Fits(n d:Nat)(t0:List AV)(t1:Bytes)(h:AHeap):worldR n (d+1) 15 [.agg t0,strA t1] h=gcR h (ref10_Fits (worldR n d) n t0 t1 h):=
 Eq.trans (b:=gcR h (fn2 Da Ds (ref10_Fits (worldR n d) n) [.agg t0,strA t1] h)) (by kernel_rfl) (congrArg (gcR h) (fn2_eq Da Ds _ t0 t1 h))
theorem w_ref09_Has(n d:Nat)(t0:List AV)(t1:Int)(h:AHeap):worldR n (d+1) 47 [.agg t0,.int .u8 t1] h=gcR h (ref09_Has (worldR n d) n t0 t1 h):=
 Eq.trans (b:=gcR h (fn2 Da (Di .u8) (ref09_Has (worldR n d) n) [.agg t0,.int .u8 t1] h)) (by kernel_rfl) (congrArg (gcR h) (fn2_eq Da (Di .u8) _ t0 t1 h))
theorem w_ref09_bad(n d:Nat)(t0:Int)(h:AHeap):worldR n (d+1) 29 [.int .i64 t0] h=gcR h (ref09_bad (worldR n d) n t0 h):=
 Eq.trans (b:=gcR h (fn1 (Di .i64) (ref09_bad (worldR n d) n) [.int .i64 t0] h)) (by kernel_rfl) (congrArg (gcR h) (fn1_eq (Di .i64) _ t0 h))
theorem w_ref09_Tree(n d:Nat)(t0:List AV)(h:AHeap):worldR n (d+1) 13 [.agg t0] h=gcR h (ref09_Tree (worldR n d) n t0 h):=
 Eq.trans (b:=gcR h (fn1 Da (ref09_Tree (worldR n d) n) [.agg t0] h)) (by kernel_rfl) (congrArg (gcR h) (fn1_eq Da _ t0 h))
theorem w_ref09_literal(n d:Nat)(t0:Bytes)(h:AHeap):worldR n (d+1) 27 [strA t0] h=gcR h (ref09_literal (worldR n d) n t0 h):=
 Eq.trans (b:=gcR h (fn1 Ds (ref09_literal (worldR n d) n) [strA t0] h)) (by kernel_rfl) (congrArg (gcR h) (fn1_eq Ds _ t0 h))
theorem w_ref09_glob(n d:Nat)(t0:Bytes)(h:AHeap):worldR n (d+1) 28 [strA t0] h=gcR h (ref09_glob (worldR n d) n t0 h):=
 Eq.trans (b:=gcR h (fn1 Ds (ref09_glob (worldR n d) n) [strA t0] h)) (by kernel_rfl) (congrArg (gcR h) (fn1_eq Ds _ t0 h))
theorem w_ref09_One(n d:Nat)(t0:Int)(h:AHeap):worldR n (d+1) 43 [.int .u8 t0] h=gcR h (ref09_One (worldR n d) n t0 h):=
 Eq.trans (b:=gcR h (fn1 (Di .u8) (ref09_One (worldR n d) n) [.int .u8 t0] h)) (by kernel_rfl) (congrArg (gcR h) (fn1_eq (Di .u8) _ t0 h))
theorem w_ref09_All(n d:Nat)(h:AHeap):worldR n (d+1) 45 [] h=gcR h (ref09_All (worldR n d) n h):=
 Eq.trans (b:=gcR h (fn0 (ref09_All (worldR n d) n) [] h)) (by kernel_rfl) (congrArg (gcR h) (fn0_eq _ h))
theorem w_ref09_Over(n d:Nat)(t0:Int)(t1:AV)(h:AHeap):worldR n (d+1) 44 [.int .i64 t0,t1] h=ref09_Over (worldR n d) n t0 t1 h:=
 Eq.trans (b:=fn2 (Di .i64) Dv (ref09_Over (worldR n d) n) [.int .i64 t0,t1] h) (by kernel_rfl) (fn2_eq (Di .i64) Dv _ t0 t1 h)
theorem w_ref09_alts(n d:Nat)(t0:Bytes)(t1:Int)(h:AHeap):worldR n (d+1) 30 [strA t0,.int .i64 t1] h=gcR h (ref09_alts (worldR n d) n t0 t1 h):=
 Eq.trans (b:=gcR h (fn2 Ds (Di .i64) (ref09_alts (worldR n d) n) [strA t0,.int .i64 t1] h)) (by kernel_rfl) (congrArg (gcR h) (fn2_eq Ds (Di .i64) _ t0 t1 h))
theorem w_ref09_row(n d:Nat)(t0:Bytes)(t1:Int)(h:AHeap):worldR n (d+1) 46 [strA t0,.int .i64 t1] h=gcR h (ref09_row (worldR n d) n t0 t1 h):=
 Eq.trans (b:=gcR h (fn2 Ds (Di .i64) (ref09_row (worldR n d) n) [strA t0,.int .i64 t1] h)) (by kernel_rfl) (congrArg (gcR h) (fn2_eq Ds (Di .i64) _ t0 t1 h))
theorem w_ref09_atom(n d:Nat)(t0:Bytes)(t1:Int)(h:AHeap):worldR n (d+1) 58 [strA t0,.int .i64 t1] h=gcR h (ref09_atom (worldR n d) n t0 t1 h):=
 Eq.trans (b:=gcR h (fn2 Ds (Di .i64) (ref09_atom (worldR n d) n) [strA t0,.int .i64 t1] h)) (by kernel_rfl) (congrArg (gcR h) (fn2_eq Ds (Di .i64) _ t0 t1 h))
theorem w_ref09_class(n d:Nat)(t0:Bytes)(t1:Int)(h:AHeap):worldR n (d+1) 68 [strA t0,.int .i64 t1] h=gcR h (ref09_class (worldR n d) n t0 t1 h):=
 Eq.trans (b:=gcR h (fn2 Ds (Di .i64) (ref09_class (worldR n d) n) [strA t0,.int .i64 t1] h)) (by kernel_rfl) (congrArg (gcR h) (fn2_eq Ds (Di .i64) _ t0 t1 h))
theorem w_ref09_member(n d:Nat)(t0:Bytes)(t1:Int)(h:AHeap):worldR n (d+1) 72 [strA t0,.int .i64 t1] h=gcR h (ref09_member (worldR n d) n t0 t1 h):=
 Eq.trans (b:=gcR h (fn2 Ds (Di .i64) (ref09_member (worldR n d) n) [strA t0,.int .i64 t1] h)) (by kernel_rfl) (congrArg (gcR h) (fn2_eq Ds (Di .i64) _ t0 t1 h))
end Go.Proofs.YtakhljnkmbpmpaaDoor
