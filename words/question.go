package words

// A Question asks whether its subject, a thing, stands in its node; without a subject it asks who does.
type Question struct {
	Node, Subject Node
}

// IsCheck tells whether there is a subject.
func (q Question) IsCheck() bool {
	return q.Subject != Node{}
}

// Clone is the same question in memory of its own, to be kept.
func (q Question) Clone() Question {
	return Question{Node: q.Node.clone(), Subject: q.Subject.clone()}
}

// ReadQuestion reads a question; false if the text is none. The names are pieces of the text.
func ReadQuestion(text string) (Question, bool) {
	r := reader{rest: text}
	question := Question{Node: r.node()}
	if r.sees("@") {
		question.Subject = r.thing()
	}
	if !r.ended() {
		return Question{}, false
	}
	return question, true
}
