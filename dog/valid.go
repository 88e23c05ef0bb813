package dog

import "clavendier/api"

// within reports whether a number is from low to high.
func within(n, low, high int) bool { return low <= n && n <= high }

// isDay reports whether a number is a day.
func isDay(day int) bool { return within(day, 0, api.MaxDay) }

// isDog reports whether a number is that of a dog.
func isDog(b api.DogBook, dog int) bool { return within(dog, 0, len(b.Keeps)-1) }

// isPerson reports whether a number is that of a person.
func isPerson(b api.DogBook, person int) bool { return within(person, 0, b.Persons-1) }

// isSomebody reports whether a number is that of a person, or tells of a stranger.
func isSomebody(b api.DogBook, person int) bool { return within(person, 0, b.Persons) }

// isTrail reports whether a number is that of a trail.
func isTrail(b api.DogBook, trail int) bool { return within(trail, 0, b.Trails-1) }

// isKeep reports whether s is a span of days that can be known of a dog.
func isKeep(s api.Span) bool {
	return 0 <= s.Low && s.Low <= s.High && s.High <= api.DogKeep && s.High-s.Low <= api.DogSpan
}
